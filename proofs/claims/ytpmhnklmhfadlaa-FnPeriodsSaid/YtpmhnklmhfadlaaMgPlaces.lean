/- Several texts of this proof in one: Occur, PlacesS, PlacesI, PlacesOf, ContP, ApartPI, ContC, AnyPI, SameN, HasSymN, AnyWI. No condition. -/
import Derived.Test.YtpmhnklmhfadlaaMgPlm
import Derived.Test.YtpmhnklmhfadlaaSame
import Derived.Test.YtpmhnklmhfadlaaSide
import Derived.Test.YtpmhnklmhfadlaaMgMath
import Derived.Test.YtpmhnklmhfadlaaMgSeq
import Derived.Test.YtpmhnklmhfadlaaPart
namespace Go.Proofs.Ytpmhnklmhfadlaa
open Go.RowKit

/-- A part of a slice, as Go cuts it. -/
theorem Rd.sub {w : World} {B b off n c q k : Nat} {xs : List Int} (h : Rd w B (some ⟨b, off, none⟩) n c xs) (hq : q + k ≤ n) : Rd w B (some ⟨b, off + q, none⟩) k (c - q) ((xs.drop q).take k) := by
  have hl := h.len
  have hc := h.cap
  have hm := h.max
  refine ⟨by rw [List.length_take, List.length_drop]; omega, by omega, by omega, fun hn => ?_, fun x hx => h.fits x (List.mem_of_mem_drop (List.mem_of_mem_take hx)), fun e => by cases e⟩
  obtain ⟨b', off', e, hb, hcell⟩ := h.cells (by omega)
  cases e
  refine ⟨b, off + q, rfl, hb, fun j hj => ?_⟩
  rw [Nat.add_assoc, hcell _ (by omega), List.getD_eq_getElem?_getD, List.getD_eq_getElem?_getD, List.getElem?_take, if_pos hj, List.getElem?_drop]
def segL (m : Nat) (xs : List Int) (r c k : Nat) : List Int := ((rowL m r xs).drop c).take k
theorem Rd.seg {w : World} {B b off cc m kk r c pm : Nat} {xs : List Int} (h : Rd w B (some ⟨b, off, none⟩) xs.length cc xs) (hl : xs.length = m * kk) (hr : r < kk) (hc : c + pm ≤ m) : Rd w B (some ⟨b, off + r * m + c, none⟩) pm (cc - r * m - c) (segL m xs r c pm) := (h.row hl hr).sub hc
section
variable {m kk pm pk r c i : Nat} {xs ys : List Int}
theorem segL_len (hl : xs.length = m * kk) (hr : r < kk) (hc : c + pm ≤ m) : (segL m xs r c pm).length = pm := by
  unfold segL
  rw [List.length_take, List.length_drop, rowL_len hl hr]; omega
theorem segL_get {j : Nat} (hc : c + pm ≤ m) (hj : j < pm) : (segL m xs r c pm).getD j 0 = elt m xs r (c + j) := by
  unfold segL
  rw [List.getD_eq_getElem?_getD, List.getElem?_take, if_pos hj, List.getElem?_drop, ← List.getD_eq_getElem?_getD, rowL_get (by omega)]
  rfl
theorem occ_iff (hl : xs.length = m * kk) (hl' : ys.length = pm * pk) (hr : r + pk ≤ kk) (hc : c + pm ≤ m) : occB m xs pm pk ys r c = true ↔ ∀ i, i < pk → segL m xs (r + i) c pm = rowL pm i ys := by
  have hg : partL m xs r c pk pm = gridL pk pm fun i j => elt m xs (r + i) (c + j) := rfl
  unfold occB
  rw [decide_eq_true_eq, hg]
  constructor
  · intro h i hi
    refine list_ext0 (by rw [segL_len hl (by omega) hc, rowL_len hl' hi]) fun q hq => ?_
    rw [segL_len hl (by omega) hc] at hq
    rw [segL_get hc hq, rowL_get hq, ← h, gridL_get hi hq]
  · intro h
    refine (gridL_ext (by rw [hl', Nat.mul_comm]) fun i j hi hj => ?_).symm
    rw [← segL_get hc hj, h i hi, rowL_get hj]
end
set_option maxRecDepth 100000 in
set_option maxHeartbeats 8000000 in
theorem occursAt_any (m kk pm pk b off cc B b' off' cc' B' r c : Nat) (xs ys : List Int) (w : World) (hR : Rd w B (some ⟨b, off, none⟩) xs.length cc xs) (hR' : Rd w B' (some ⟨b', off', none⟩) ys.length cc' ys) (hB : B ≤ w.heap.size) (hB' : B' ≤ w.heap.size)
    (m1 : 1 ≤ m) (m8 : m ≤ 8) (k8 : kk ≤ 8) (p1 : 1 ≤ pm) (p8 : pm ≤ 8) (p9 : pk ≤ 8) (hl : Hid (xs.length = m * kk)) (hl' : Hid (ys.length = pm * pk)) (hrk : r + pk ≤ kk) (hcm : c + pm ≤ m) (d : Bool) (hd : occB m xs pm pk ys r c = d) :
    Calls Try.prog 74 #[chartV m kk (.slice (some ⟨b, off, none⟩) xs.length cc), chartV pm pk (.slice (some ⟨b', off', none⟩) ys.length cc'), .int .i64 r, .int .i64 c] w (Out w (.bool d)) := by
  have hb0 := Lib.hid (((Below.refl w.heap.size w).alloc (Nat.le_refl _) (.cells #[.int .i64 m, .int .i64 kk, .slice (some ⟨b, off, none⟩) xs.length cc] 26)).alloc (by simp) (.cells #[.int .i64 pm, .int .i64 pk, .slice (some ⟨b', off', none⟩) ys.length cc'] 26))
  have R0 := (hR.alloc hB (.cells #[.int .i64 m, .int .i64 kk, .slice (some ⟨b, off, none⟩) xs.length cc] 26)).alloc (by simp; omega) (.cells #[.int .i64 pm, .int .i64 pk, .slice (some ⟨b', off', none⟩) ys.length cc'] 26)
  have S0 := (hR'.alloc hB' (.cells #[.int .i64 m, .int .i64 kk, .slice (some ⟨b, off, none⟩) xs.length cc] 26)).alloc (by simp; omega) (.cells #[.int .i64 pm, .int .i64 pk, .slice (some ⟨b', off', none⟩) ys.length cc'] 26)
  have x0 := (Blk.new w #[.int .i64 m, .int .i64 kk, .slice (some ⟨b, off, none⟩) xs.length cc] 26).alloc (.cells #[.int .i64 pm, .int .i64 pk, .slice (some ⟨b', off', none⟩) ys.length cc'] 26)
  have y0 := (Blk.new (w.alloc (.cells #[.int .i64 m, .int .i64 kk, .slice (some ⟨b, off, none⟩) xs.length cc] 26)) #[.int .i64 pm, .int .i64 pk, .slice (some ⟨b', off', none⟩) ys.length cc'] 26).at_ (q := w.heap.size + 1) (by simp)
  have hcap := hR.cap
  have hmax := hR.max
  have hcap' := hR'.cap
  have hmax' := hR'.max
  have HD := Lib.hid hd
  clear hR hR' hd
  go_enter Try.func74, Try.ntmps74
  go_wp2
  go_loopw [12] (fun s12 wr => ∃ i : Nat, i ≤ pk ∧ s12 = .int .i64 i ∧ Hid (∀ q, q < i → segL m xs (r + q) c pm = rowL pm q ys) ∧ Blk wr w.heap.size 26 #[.int .i64 m, .int .i64 kk, .slice (some ⟨b, off, none⟩) xs.length cc] ∧ Blk wr (w.heap.size + 1) 26 #[.int .i64 pm, .int .i64 pk, .slice (some ⟨b', off', none⟩) ys.length cc'] ∧ Rd wr B (some ⟨b, off, none⟩) xs.length cc xs ∧ Rd wr B' (some ⟨b', off', none⟩) ys.length cc' ys ∧ Hid (Below w.heap.size w wr)) (fun s12 _ => pk - (intOf s12).toNat)
  case atStart => exact ⟨0, Nat.zero_le _, rfl, Lib.hid (fun q hq => absurd hq (Nat.not_lt_zero _)), x0, y0, R0, S0, hb0⟩
  case round =>
    clear x0 y0 R0 S0 hb0
    obtain ⟨i, hi, rfl, hsame, x1, y1, R1, S1, HB⟩ := hrel
    by_cases hlt : i < pk
    · have hri : r + i < kk := by omega
      have ex0 := x1.cell 0
      have ex1 := x1.cell 1
      have ex2 := x1.cell 2
      have ey0 := y1.cell 0
      have ey1 := y1.cell 1
      have ey2 := y1.cell 2
      have hzx := x1.lt
      have hzy := y1.lt
      have hz1 : w.heap.size ≤ wr.heap.size := HB.out.size
      have hw1 : IntKind.i64.wrap ((r : Int) + (i : Int)) = (r : Int) + (i : Int) := IntWalk.i64_in _ (by omega)
      have hw2 : IntKind.i64.wrap ((c : Int) + (pm : Int)) = (c : Int) + (pm : Int) := IntWalk.i64_in _ (by omega)
      have HRI := Lib.hid (show (r : Int) + (i : Int) = ((r + i : Nat) : Int) by omega)
      have hrow := row_le hl.out hri
      have hrow' := row_le hl'.out hlt
      have hcp : c + pm ≤ cc - (r + i) * m := by omega
      have hcp' : (c : Int) + (pm : Int) ≤ ((cc - (r + i) * m : Nat) : Int) := by omega
      have hcne : ¬ cc - (r + i) * m = c := by omega
      have htn : ((c : Int) + (pm : Int)).toNat = c + pm := by omega
      have hcl : (c : Int) ≤ (c : Int) + (pm : Int) := by omega
      have hc0 : (0 : Int) ≤ (c : Int) := by omega
      have hcs : c + pm - c = pm := by omega
      obtain ⟨dd, HDD⟩ : ∃ dd, Hid (decide (segL m xs (r + i) c pm = rowL pm i ys) = dd) := ⟨_, rfl⟩
      go_wp2
      go_region_held3 (fun w' => w'.cell? ⟨w.heap.size, 0, none⟩ = some (.int .i64 m) ∧ w'.cell? ⟨w.heap.size, 1, none⟩ = some (.int .i64 kk) ∧ w'.cell? ⟨w.heap.size, 2, none⟩ = some (.slice (some ⟨b, off, none⟩) xs.length cc) ∧ w'.cell? ⟨w.heap.size + 1, 0, none⟩ = some (.int .i64 pm) ∧ w'.cell? ⟨w.heap.size + 1, 1, none⟩ = some (.int .i64 pk) ∧ w'.cell? ⟨w.heap.size + 1, 2, none⟩ = some (.slice (some ⟨b', off', none⟩) ys.length cc')) (first | exact ⟨ex0, ex1, ex2, ey0, ey1, ey2⟩ | go_keep) (first | (go_at_call 56; (with_reducible refine (rowOf_i m kk (r + i) b off xs.length cc _ hl.out hcap hmax m1 m8 hri k8 _ HRI.out).mono ?_); rintro e w3 ⟨rfl, hb3⟩; (try replace hb3 := below_drew' hb3); have S3 := S1.all hb3 (Nat.le_trans hB' hz1); have R3 := R1.all hb3 (Nat.le_trans hB hz1); have HB3 := Lib.hid (HB.out.trans (hb3.mono hz1)); have x3 := x1.all hb3; have y3 := y1.all hb3; have hz3 : w.heap.size ≤ w3.heap.size := Nat.le_trans hz1 hb3.size; replace ex0 := cells_of hb3 ex0 hzx; replace ex1 := cells_of hb3 ex1 hzx; replace ex2 := cells_of hb3 ex2 hzx; replace ey0 := cells_of hb3 ey0 hzy; replace ey1 := cells_of hb3 ey1 hzy; replace ey2 := cells_of hb3 ey2 hzy; have hzx3 := x3.lt; have hzy3 := y3.lt; clear hb3) | (go_at_call 56; (with_reducible refine (rowOf_s pm pk i b' off' ys.length cc' _ hl'.out hcap' hmax' p1 p8 hlt p9).mono ?_); rintro e w4 ⟨rfl, hb4⟩; have S4 := S3.all hb4 (Nat.le_trans hB' hz3); have R4 := R3.all hb4 (Nat.le_trans hB hz3); have HB4 := Lib.hid (HB3.out.trans (hb4.mono hz3)); have x4 := x3.all hb4; have y4 := y3.all hb4; have hz4 : w.heap.size ≤ w4.heap.size := Nat.le_trans hz3 hb4.size; replace ex0 := cells_of hb4 ex0 hzx3; replace ex1 := cells_of hb4 ex1 hzx3; replace ex2 := cells_of hb4 ex2 hzx3; replace ey0 := cells_of hb4 ey0 hzy3; replace ey1 := cells_of hb4 ey1 hzy3; replace ey2 := cells_of hb4 ey2 hzy3; have hzx4 := x4.lt; have hzy4 := y4.lt; clear hb4) | (go_at_call 61; (with_reducible refine (equal_eq b (off + (r + i) * m + c) pm (cc - (r + i) * m - c) b' (off' + i * pm) pm (cc' - i * pm) B B' _ _ _ (Rd.seg R4 hl.out hri hcm) (S4.row hl'.out hlt) p1 p1 dd HDD.out).mono ?_); rintro e w5 ⟨rfl, hb5⟩; have S5 := S4.all hb5 (Nat.le_trans hB' hz4); have R5 := R4.all hb5 (Nat.le_trans hB hz4); have HB5 := Lib.hid (HB4.out.trans (hb5.mono hz4)); have x5 := x4.all hb5; have y5 := y4.all hb5; replace ex0 := cells_of hb5 ex0 hzx4; replace ex1 := cells_of hb5 ex1 hzx4; replace ex2 := cells_of hb5 ex2 hzx4; replace ey0 := cells_of hb5 ey0 hzy4; replace ey1 := cells_of hb5 ey1 hzy4; replace ey2 := cells_of hb5 ey2 hzy4; clear hb5))
      clear x1 y1 R1 S1 HB x3 y3 R3 S3 HB3 x4 y4 R4 S4 HB4 ex0 ex1 ex2 ey0 ey1 ey2
      cases dd with
      | true =>
        have HN := Lib.hid (show ∀ q, q < i + 1 → segL m xs (r + q) c pm = rowL pm q ys from fun q hq => by
          by_cases e : q = i
          · subst e; simpa using HDD.out
          · exact hsame.out q (by omega))
        go_wp2
        go_roundw
        case rel => exact ⟨i + 1, by omega, by go_num, HN, x5, y5, R5, S5, HB5⟩
        case measure => simp [intOf]; omega
      | false =>
        have HN := Lib.hid (show d = false by
          rw [← HD.out]
          cases h : occB m xs pm pk ys r c with
          | false => rfl
          | true =>
            have := (occ_iff hl.out hl'.out hrk hcm).1 h i hlt
            have h5 := HDD.out
            rw [decide_eq_false_iff_not] at h5
            exact absurd this h5)
        go_wp2
        go_ret
        exact ⟨ret_bool HN.out.symm, HB5.out⟩
    · obtain rfl : i = pk := by omega
      have HN := Lib.hid (show d = true by rw [← HD.out]; exact (occ_iff hl.out hl'.out hrk hcm).2 hsame.out)
      go_wp2
      go_ret
      exact ⟨ret_bool HN.out.symm, HB.out⟩
end Go.Proofs.Ytpmhnklmhfadlaa
namespace Go.Proofs.Ytpmhnklmhfadlaa
open Go.RowKit

/-- What a call leaves that answers a slice of pairs of its own. -/
def OwnPairs (w : World) (L : List PairR) (e : Ending) (w' : World) : Prop := ∃ A c, e = .returned (.slice A L.length c) ∧ OwnF pairF w' w.heap.size (.slice A L.length c) L ∧ Below w.heap.size w w'
theorem l4Same_sz (m k n c n' c' B B' : Nat) (A A' : Option Addr) (xs ys : List Int) (w : World) (h : Rd w B A n c xs) (h' : Rd w B' A' n' c' ys) (hB : B ≤ w.heap.size) (hB' : B' ≤ w.heap.size) (hl : ys.length = xs.length) (d : Bool) (hd : decide (ys = xs) = d) :
    Calls Try.prog 52 #[chartV m k (.slice A n c), chartV m k (.slice A' n' c')] w (Out w (.bool d)) :=
  l4Same_eq m k m k n c n' c' B B' A A' xs ys w h h' hB hB' (fun _ _ => hl) d (by simpa using hd)
set_option maxRecDepth 100000 in
set_option maxHeartbeats 8000000 in
theorem l6Places_any (m kk pm pk b off cc B b' off' cc' B' : Nat) (xs ys : List Int) (w : World) (hR : Rd w B (some ⟨b, off, none⟩) xs.length cc xs) (hR' : Rd w B' (some ⟨b', off', none⟩) ys.length cc' ys) (hB : B ≤ w.heap.size) (hB' : B' ≤ w.heap.size)
    (m8 : m ≤ 8) (k8 : kk ≤ 8) (p1 : 1 ≤ pm) (p2 : 1 ≤ pk) (p8 : pm ≤ 8) (p9 : pk ≤ 8) (hl : Hid (xs.length = m * kk)) (hl' : Hid (ys.length = pm * pk)) (h64 : m * kk ≤ 64) :
    Calls Try.prog 45 #[chartV m kk (.slice (some ⟨b, off, none⟩) xs.length cc), chartV pm pk (.slice (some ⟨b', off', none⟩) ys.length cc')] w (OwnPairs w (placesL m kk xs pm pk ys)) := by
  have hb0 := Lib.hid ((((Below.refl w.heap.size w).alloc (Nat.le_refl _) (.cells #[.int .i64 m, .int .i64 kk, .slice (some ⟨b, off, none⟩) xs.length cc] 26)).alloc (by simp) (.cells #[.int .i64 pm, .int .i64 pk, .slice (some ⟨b', off', none⟩) ys.length cc'] 26)).alloc (by simp; omega) (.cells #[] 60))
  have R0 := (((hR.alloc hB (.cells #[.int .i64 m, .int .i64 kk, .slice (some ⟨b, off, none⟩) xs.length cc] 26)).alloc (by simp; omega) (.cells #[.int .i64 pm, .int .i64 pk, .slice (some ⟨b', off', none⟩) ys.length cc'] 26)).alloc (by simp; omega) (.cells #[] 60))
  have S0 := (((hR'.alloc hB' (.cells #[.int .i64 m, .int .i64 kk, .slice (some ⟨b, off, none⟩) xs.length cc] 26)).alloc (by simp; omega) (.cells #[.int .i64 pm, .int .i64 pk, .slice (some ⟨b', off', none⟩) ys.length cc'] 26)).alloc (by simp; omega) (.cells #[] 60))
  have x0 := (((Blk.new w #[.int .i64 m, .int .i64 kk, .slice (some ⟨b, off, none⟩) xs.length cc] 26).alloc (.cells #[.int .i64 pm, .int .i64 pk, .slice (some ⟨b', off', none⟩) ys.length cc'] 26)).alloc (.cells #[] 60))
  have y0 := (((Blk.new (w.alloc (.cells #[.int .i64 m, .int .i64 kk, .slice (some ⟨b, off, none⟩) xs.length cc] 26)) #[.int .i64 pm, .int .i64 pk, .slice (some ⟨b', off', none⟩) ys.length cc'] 26).alloc (.cells #[] 60)).at_ (q := w.heap.size + 1) (by simp))
  have o0 : OwnF pairF (((w.alloc (.cells #[.int .i64 m, .int .i64 kk, .slice (some ⟨b, off, none⟩) xs.length cc] 26)).alloc (.cells #[.int .i64 pm, .int .i64 pk, .slice (some ⟨b', off', none⟩) ys.length cc'] 26)).alloc (.cells #[] 60)) w.heap.size (.slice (some ⟨w.heap.size + 1 + 1, 0, none⟩) 0 0) [] := by simpa [pairF] using (OwnF.empty pairF (w := (w.alloc (.cells #[.int .i64 m, .int .i64 kk, .slice (some ⟨b, off, none⟩) xs.length cc] 26)).alloc (.cells #[.int .i64 pm, .int .i64 pk, .slice (some ⟨b', off', none⟩) ys.length cc'] 26)) (lo := w.heap.size) (by simp; omega))
  clear hR hR'
  go_enter Try.func45, Try.ntmps45
  go_wp2
  go_loopw [5, 6] (fun s5 s6 wr => ∃ (i : Nat) (A : Option Addr) (c : Nat) (L : List PairR), i ≤ kk + 1 - pk ∧ s6 = .int .i64 i ∧ s5 = .slice A L.length c ∧ Hid (L = placesTo m xs pm pk ys i) ∧ OwnF pairF wr w.heap.size (.slice A L.length c) L ∧
      Blk wr w.heap.size 26 #[.int .i64 m, .int .i64 kk, .slice (some ⟨b, off, none⟩) xs.length cc] ∧ Blk wr (w.heap.size + 1) 26 #[.int .i64 pm, .int .i64 pk, .slice (some ⟨b', off', none⟩) ys.length cc'] ∧ Rd wr B (some ⟨b, off, none⟩) xs.length cc xs ∧ Rd wr B' (some ⟨b', off', none⟩) ys.length cc' ys ∧ Hid (Below w.heap.size w wr))
    (fun _ s6 _ => kk + 1 - pk - (intOf s6).toNat)
  case atStart => exact ⟨0, _, 0, [], Nat.zero_le _, rfl, rfl, rfl, o0, x0, y0, R0, S0, hb0⟩
  case round =>
    clear o0 x0 y0 R0 S0 hb0
    obtain ⟨i, A, c, L, hi, rfl, rfl, HL, ho, x1, y1, R1, S1, HB⟩ := hrel
    have ex1 := x1.cell 1
    have ey1 := y1.cell 1
    by_cases hlt : i < kk + 1 - pk
    · have hle : (i : Int) + (pk : Int) ≤ (kk : Int) := by omega
      have hw1 : IntKind.i64.wrap ((i : Int) + (pk : Int)) = (i : Int) + (pk : Int) := IntWalk.i64_in _ (by omega)
      go_wp2
      clear ex1 ey1
      go_loopw [5, 7] (fun s5 s7 wr => ∃ (j : Nat) (A : Option Addr) (c : Nat) (L : List PairR), j ≤ m + 1 - pm ∧ s7 = .int .i64 j ∧ s5 = .slice A L.length c ∧ Hid (L = placesTo m xs pm pk ys i ++ rowPl m xs pm pk ys i j) ∧ OwnF pairF wr w.heap.size (.slice A L.length c) L ∧
          Blk wr w.heap.size 26 #[.int .i64 m, .int .i64 kk, .slice (some ⟨b, off, none⟩) xs.length cc] ∧ Blk wr (w.heap.size + 1) 26 #[.int .i64 pm, .int .i64 pk, .slice (some ⟨b', off', none⟩) ys.length cc'] ∧ Rd wr B (some ⟨b, off, none⟩) xs.length cc xs ∧ Rd wr B' (some ⟨b', off', none⟩) ys.length cc' ys ∧ Hid (Below w.heap.size w wr))
        (fun _ s7 _ => m + 1 - pm - (intOf s7).toNat)
      case atStart => exact ⟨0, A, c, L, Nat.zero_le _, rfl, rfl, Lib.hid (by rw [rowPl_zero, List.append_nil]; exact HL.out), ho, x1, y1, R1, S1, HB⟩
      case round =>
        clear HL ho x1 y1 R1 S1 HB
        obtain ⟨j, A, c, L, hj, rfl, rfl, HL, ho, x1, y1, R1, S1, HB⟩ := hrel
        have ex0 := x1.cell 0
        have ex1 := x1.cell 1
        have ex2 := x1.cell 2
        have ey0 := y1.cell 0
        have ey1 := y1.cell 1
        have ey2 := y1.cell 2
        have hz1 : w.heap.size ≤ wr.heap.size := HB.out.size
        have hzx := x1.lt
        have hzy := y1.lt
        by_cases hjl : j < m + 1 - pm
        · have hle2 : (j : Int) + (pm : Int) ≤ (m : Int) := by omega
          have hw2 : IntKind.i64.wrap ((j : Int) + (pm : Int)) = (j : Int) + (pm : Int) := IntWalk.i64_in _ (by omega)
          have hrh : i + pk ≤ kk := by omega
          have hck : j + pm ≤ m := by omega
          have hlen : L.length ≤ 1000 := by
            rw [HL.out, List.length_append]
            have h1 := placesTo_len (m := m) (xs := xs) (pm := pm) (pk := pk) (ys := ys) (n := i)
            have h2 := rowPl_len (m := m) (xs := xs) (pm := pm) (pk := pk) (ys := ys) (r := i) (t := j)
            have h3 : i * (m + 1 - pm) ≤ 8 * 8 := Nat.mul_le_mul (by omega) (by omega)
            omega
          obtain ⟨d, HDD⟩ : ∃ d, Hid (decide (partL m xs i j pk pm = ys) = d) := ⟨_, rfl⟩
          have HOC := Lib.hid (show occB m xs pm pk ys i j = d from HDD.out)
          have HPL := Lib.hid (show (partL m xs i j pk pm).length = ys.length by rw [partL_len, hl'.out, Nat.mul_comm])
          have R1d := R1.drew
          have hz3d : B ≤ wr.drew.heap.size := Nat.le_trans hB hz1
          go_wp2
          go_region_held3 (fun w' => w'.cell? ⟨w.heap.size, 0, none⟩ = some (.int .i64 m) ∧ w'.cell? ⟨w.heap.size, 1, none⟩ = some (.int .i64 kk) ∧ w'.cell? ⟨w.heap.size, 2, none⟩ = some (.slice (some ⟨b, off, none⟩) xs.length cc) ∧ w'.cell? ⟨w.heap.size + 1, 0, none⟩ = some (.int .i64 pm) ∧ w'.cell? ⟨w.heap.size + 1, 1, none⟩ = some (.int .i64 pk) ∧ w'.cell? ⟨w.heap.size + 1, 2, none⟩ = some (.slice (some ⟨b', off', none⟩) ys.length cc')) (first | exact ⟨ex0, ex1, ex2, ey0, ey1, ey2⟩ | go_keep) (first | (go_at_call 31; (with_reducible refine (l2Part_any m kk b off cc B i j pk pm xs _ R1d hz3d m8 k8 hl h64 hrh hck).mono ?_); rintro e w3 ⟨A3, c3, rfl, own3, hb3⟩; (try replace hb3 := below_drew' hb3); have S3 := S1.all hb3 (Nat.le_trans hB' hz1); have R3 := R1.all hb3 (Nat.le_trans hB hz1); have HB3 := Lib.hid (HB.out.trans (hb3.mono hz1)); have x3 := x1.all hb3; have y3 := y1.all hb3; have o3 := ho.all hb3; have hz4 : B' ≤ w3.heap.size := Nat.le_trans (Nat.le_trans hB' hz1) hb3.size; have hz5 : B ≤ w3.heap.size := Nat.le_trans (Nat.le_trans hB hz1) hb3.size; have hz7 : w.heap.size ≤ w3.heap.size := Nat.le_trans hz1 hb3.size; replace ex0 := cells_of hb3 ex0 hzx; replace ex1 := cells_of hb3 ex1 hzx; replace ex2 := cells_of hb3 ex2 hzx; replace ey0 := cells_of hb3 ey0 hzy; replace ey1 := cells_of hb3 ey1 hzy; replace ey2 := cells_of hb3 ey2 hzy; have hzx3 := x3.lt; have hzy3 := y3.lt; clear hb3) | (go_at_call 52; (with_reducible refine (l4Same_sz pm pk _ cc' _ c3 B' _ _ _ ys _ _ S3 own3.rd hz4 (Nat.le_refl _) HPL.out d HDD.out).mono ?_); rintro e w4 ⟨rfl, hb4⟩; have HB4 := Lib.hid (HB3.out.trans (hb4.mono hz7)); have R4 := R3.all hb4 hz5; have S4 := S3.all hb4 hz4; have x4 := x3.all hb4; have y4 := y3.all hb4; have o4 := o3.all hb4; have hz9 : w.heap.size ≤ w4.heap.size := Nat.le_trans hz7 hb4.size; replace ex0 := cells_of hb4 ex0 hzx3; replace ex1 := cells_of hb4 ex1 hzx3; replace ex2 := cells_of hb4 ex2 hzx3; replace ey0 := cells_of hb4 ey0 hzy3; replace ey1 := cells_of hb4 ey1 hzy3; replace ey2 := cells_of hb4 ey2 hzy3; clear hb4))
          clear x1 y1 R1 S1 ho HB ex0 ex1 ex2 ey0 ey1 ey2 x3 y3 R3 S3 o3 HB3 own3 hzx hzy hzx3 hzy3 R1d
          cases d with
          | true =>
            have HN := Lib.hid (show L ++ [⟨(i : Int), (j : Int)⟩] = placesTo m xs pm pk ys i ++ rowPl m xs pm pk ys i (j + 1) by rw [rowPl_yes HOC.out, HL.out, List.append_assoc])
            clear HL
            have hr := RdF.lit (F := pairF) (w := w4) (cs := #[.int .i64 (i : Int), .int .i64 (j : Int)]) (a := ⟨(i : Int), (j : Int)⟩) rfl (ok_small (by omega) (by omega))
            have oA := o4.alloc (.cells #[.int .i64 (i : Int), .int .i64 (j : Int)] pairF.t)
            have hz10 : w.heap.size ≤ (w4.alloc (.cells #[.int .i64 (i : Int), .int .i64 (j : Int)] pairF.t)).heap.size := by simp; omega
            have xA := x4.alloc (.cells #[.int .i64 (i : Int), .int .i64 (j : Int)] pairF.t)
            have yA := y4.alloc (.cells #[.int .i64 (i : Int), .int .i64 (j : Int)] pairF.t)
            have RA := R4.alloc (Nat.le_trans hB hz9) (.cells #[.int .i64 (i : Int), .int .i64 (j : Int)] pairF.t)
            have SA := S4.alloc (Nat.le_trans hB' hz9) (.cells #[.int .i64 (i : Int), .int .i64 (j : Int)] pairF.t)
            have HBA := Lib.hid (HB4.out.alloc hz9 (.cells #[.int .i64 (i : Int), .int .i64 (j : Int)] pairF.t))
            clear x4 y4 R4 S4 HB4
            go_wp2_with (refine wpList_appendF pairF rfl _ (.tmp 37) (.tmp 41) 36 (.agg #[.int .i64 0, .int .i64 0]) 16 rfl Try.underlying36 info_Pair rfl (by decide) (by decide) w.heap.size _ L [⟨(i : Int), (j : Int)⟩] w4.heap.size 0 1 1 (w4.heap.size + 1) rfl rfl oA hr (by simp; omega) hz10 ?_)
            intro A5 c5 w5 o5 hg5
            have x5 := xA.mark hg5 (row_ne oA.1 xA (by decide))
            have y5 := yA.mark hg5 (row_ne oA.1 yA (by decide))
            have R5 := RA.mark hg5 (fun q hq => Nat.le_trans hB (oA.bd q hq).1) (Nat.le_trans hB hz10)
            have S5 := SA.mark hg5 (fun q hq => Nat.le_trans hB' (oA.bd q hq).1) (Nat.le_trans hB' hz10)
            have HB5 := Lib.hid (HBA.out.grown hg5 hz10 (fun q hq => (oA.bd q hq).1))
            clear oA xA yA RA SA HBA hr o4 hg5
            go_wp2
            go_roundw
            case rel => exact ⟨j + 1, A5, c5, L ++ [⟨(i : Int), (j : Int)⟩], by omega, by go_num, by rw [List.length_append]; rfl, HN, by rw [List.length_append]; exact o5, x5, y5, R5, S5, HB5⟩
            case measure => simp [intOf]; omega
          | false =>
            have HN := Lib.hid (show L = placesTo m xs pm pk ys i ++ rowPl m xs pm pk ys i (j + 1) by rw [rowPl_no HOC.out]; exact HL.out)
            clear HL
            go_wp2
            go_roundw
            case rel => exact ⟨j + 1, A, c, L, by omega, by go_num, rfl, HN, o4, x4, y4, R4, S4, HB4⟩
            case measure => simp [intOf]; omega
        · have HN := Lib.hid (show L = placesTo m xs pm pk ys (i + 1) by rw [placesTo_succ, HL.out, show j = m + 1 - pm by omega])
          have hgt : ¬ (j : Int) + (pm : Int) ≤ (m : Int) := by omega
          have hw2 : IntKind.i64.wrap ((j : Int) + (pm : Int)) = (j : Int) + (pm : Int) := IntWalk.i64_in _ (by omega)
          clear HL
          go_wp2
          go_roundw
          case rel => exact ⟨i + 1, A, c, L, by omega, by go_num, rfl, HN, ho, x1, y1, R1, S1, HB⟩
          case measure => simp [intOf]; omega
    · have HN := Lib.hid (show L = placesL m kk xs pm pk ys by rw [HL.out, placesL, show i = kk + 1 - pk by omega])
      have hgt : ¬ (i : Int) + (pk : Int) ≤ (kk : Int) := by omega
      have hw1 : IntKind.i64.wrap ((i : Int) + (pk : Int)) = (i : Int) + (pk : Int) := IntWalk.i64_in _ (by omega)
      clear HL
      go_wp2
      go_ret
      rw [← HN.out]
      exact ⟨A, c, rfl, ho, HB.out⟩
end Go.Proofs.Ytpmhnklmhfadlaa
namespace Go.Proofs.Ytpmhnklmhfadlaa
open Go.RowKit

set_option maxRecDepth 100000 in
set_option maxHeartbeats 8000000 in
theorem placesIn_any (m kk pm pk b off cc B b' off' cc' B' : Nat) (xs ys : List Int) (w : World) (hR : Rd w B (some ⟨b, off, none⟩) xs.length cc xs) (hR' : Rd w B' (some ⟨b', off', none⟩) ys.length cc' ys) (hB : B ≤ w.heap.size) (hB' : B' ≤ w.heap.size)
    (m1 : 1 ≤ m) (m8 : m ≤ 8) (k8 : kk ≤ 8) (p1 : 1 ≤ pm) (p2 : 1 ≤ pk) (p8 : pm ≤ 8) (p9 : pk ≤ 8) (hl : Hid (xs.length = m * kk)) (hl' : Hid (ys.length = pm * pk)) :
    Calls Try.prog 44 #[chartV m kk (.slice (some ⟨b, off, none⟩) xs.length cc), chartV pm pk (.slice (some ⟨b', off', none⟩) ys.length cc')] w (OwnPairs w (placesL m kk xs pm pk ys)) := by
  have hb0 := Lib.hid (((Below.refl w.heap.size w).alloc (Nat.le_refl _) (.cells #[.int .i64 m, .int .i64 kk, .slice (some ⟨b, off, none⟩) xs.length cc] 26)).alloc (by simp) (.cells #[.int .i64 pm, .int .i64 pk, .slice (some ⟨b', off', none⟩) ys.length cc'] 26))
  have R0 := (hR.alloc hB (.cells #[.int .i64 m, .int .i64 kk, .slice (some ⟨b, off, none⟩) xs.length cc] 26)).alloc (by simp; omega) (.cells #[.int .i64 pm, .int .i64 pk, .slice (some ⟨b', off', none⟩) ys.length cc'] 26)
  have S0 := (hR'.alloc hB' (.cells #[.int .i64 m, .int .i64 kk, .slice (some ⟨b, off, none⟩) xs.length cc] 26)).alloc (by simp; omega) (.cells #[.int .i64 pm, .int .i64 pk, .slice (some ⟨b', off', none⟩) ys.length cc'] 26)
  have x0 := (Blk.new w #[.int .i64 m, .int .i64 kk, .slice (some ⟨b, off, none⟩) xs.length cc] 26).alloc (.cells #[.int .i64 pm, .int .i64 pk, .slice (some ⟨b', off', none⟩) ys.length cc'] 26)
  have y0 := (Blk.new (w.alloc (.cells #[.int .i64 m, .int .i64 kk, .slice (some ⟨b, off, none⟩) xs.length cc] 26)) #[.int .i64 pm, .int .i64 pk, .slice (some ⟨b', off', none⟩) ys.length cc'] 26).at_ (q := w.heap.size + 1) (by simp)
  have o0 : OwnF pairF ((w.alloc (.cells #[.int .i64 m, .int .i64 kk, .slice (some ⟨b, off, none⟩) xs.length cc] 26)).alloc (.cells #[.int .i64 pm, .int .i64 pk, .slice (some ⟨b', off', none⟩) ys.length cc'] 26)) w.heap.size (.slice none 0 0) [] := OwnF.nil _ _ _
  have hwk : IntKind.i64.wrap ((kk : Int) - (pk : Int)) = (kk : Int) - (pk : Int) := IntWalk.i64_in _ (by omega)
  have hwk1 : IntKind.i64.wrap ((kk : Int) - (pk : Int) + 1) = (kk : Int) - (pk : Int) + 1 := IntWalk.i64_in _ (by omega)
  have hwm : IntKind.i64.wrap ((m : Int) - (pm : Int)) = (m : Int) - (pm : Int) := IntWalk.i64_in _ (by omega)
  have hwm1 : IntKind.i64.wrap ((m : Int) - (pm : Int) + 1) = (m : Int) - (pm : Int) + 1 := IntWalk.i64_in _ (by omega)
  clear hR hR'
  go_enter Try.func44, Try.ntmps44
  go_wp2
  go_loopw [5, 14] (fun s5 s14 wr => ∃ (i : Nat) (A : Option Addr) (c : Nat) (L : List PairR), i ≤ kk + 1 - pk ∧ s14 = .int .i64 i ∧ s5 = .slice A L.length c ∧ Hid (L = placesTo m xs pm pk ys i) ∧ OwnF pairF wr w.heap.size (.slice A L.length c) L ∧
      Blk wr w.heap.size 26 #[.int .i64 m, .int .i64 kk, .slice (some ⟨b, off, none⟩) xs.length cc] ∧ Blk wr (w.heap.size + 1) 26 #[.int .i64 pm, .int .i64 pk, .slice (some ⟨b', off', none⟩) ys.length cc'] ∧ Rd wr B (some ⟨b, off, none⟩) xs.length cc xs ∧ Rd wr B' (some ⟨b', off', none⟩) ys.length cc' ys ∧ Hid (Below w.heap.size w wr))
    (fun _ s14 _ => kk + 1 - pk - (intOf s14).toNat)
  case atStart => exact ⟨0, _, 0, [], Nat.zero_le _, rfl, rfl, rfl, o0, x0, y0, R0, S0, hb0⟩
  case round =>
    clear o0 x0 y0 R0 S0 hb0
    obtain ⟨i, A, c, L, hi, rfl, rfl, HL, ho, x1, y1, R1, S1, HB⟩ := hrel
    have ex0 := x1.cell 0
    have ey0 := y1.cell 0
    by_cases hlt : i < kk + 1 - pk
    · have hle : (i : Int) < (kk : Int) - (pk : Int) + 1 := by omega
      go_wp2
      clear ex0 ey0
      go_loopw [5, 23] (fun s5 s23 wr => ∃ (j : Nat) (A : Option Addr) (c : Nat) (L : List PairR), j ≤ m + 1 - pm ∧ s23 = .int .i64 j ∧ s5 = .slice A L.length c ∧ Hid (L = placesTo m xs pm pk ys i ++ rowPl m xs pm pk ys i j) ∧ OwnF pairF wr w.heap.size (.slice A L.length c) L ∧
          Blk wr w.heap.size 26 #[.int .i64 m, .int .i64 kk, .slice (some ⟨b, off, none⟩) xs.length cc] ∧ Blk wr (w.heap.size + 1) 26 #[.int .i64 pm, .int .i64 pk, .slice (some ⟨b', off', none⟩) ys.length cc'] ∧ Rd wr B (some ⟨b, off, none⟩) xs.length cc xs ∧ Rd wr B' (some ⟨b', off', none⟩) ys.length cc' ys ∧ Hid (Below w.heap.size w wr))
        (fun _ s23 _ => m + 1 - pm - (intOf s23).toNat)
      case atStart => exact ⟨0, A, c, L, Nat.zero_le _, rfl, rfl, Lib.hid (by rw [rowPl_zero, List.append_nil]; exact HL.out), ho, x1, y1, R1, S1, HB⟩
      case round =>
        clear HL ho x1 y1 R1 S1 HB
        obtain ⟨j, A, c, L, hj, rfl, rfl, HL, ho, x1, y1, R1, S1, HB⟩ := hrel
        have ex0 := x1.cell 0
        have ex1 := x1.cell 1
        have ex2 := x1.cell 2
        have ey0 := y1.cell 0
        have ey1 := y1.cell 1
        have ey2 := y1.cell 2
        have hz1 : w.heap.size ≤ wr.heap.size := HB.out.size
        by_cases hjl : j < m + 1 - pm
        · have hle2 : (j : Int) < (m : Int) - (pm : Int) + 1 := by omega
          have hrh : i + pk ≤ kk := by omega
          have hck : j + pm ≤ m := by omega
          have hlen : L.length ≤ 1000 := by
            rw [HL.out, List.length_append]
            have h1 := placesTo_len (m := m) (xs := xs) (pm := pm) (pk := pk) (ys := ys) (n := i)
            have h2 := rowPl_len (m := m) (xs := xs) (pm := pm) (pk := pk) (ys := ys) (r := i) (t := j)
            have h3 : i * (m + 1 - pm) ≤ 8 * 8 := Nat.mul_le_mul (by omega) (by omega)
            omega
          obtain ⟨d, HOC⟩ : ∃ d, Hid (occB m xs pm pk ys i j = d) := ⟨_, rfl⟩
          go_wp2_with fail
          refine (occursAt_any m kk pm pk b off cc B b' off' cc' B' i j xs ys wr R1 S1 (Nat.le_trans hB hz1) (Nat.le_trans hB' hz1) m1 m8 k8 p1 p8 p9 hl hl' hrh hck d HOC.out).mono ?_
          rintro e w4 ⟨rfl, hb4⟩
          have HB4 := Lib.hid (HB.out.trans (hb4.mono hz1))
          have R4 := R1.all hb4 (Nat.le_trans hB hz1)
          have S4 := S1.all hb4 (Nat.le_trans hB' hz1)
          have x4 := x1.all hb4
          have y4 := y1.all hb4
          have o4 := ho.all hb4
          have hz9 : w.heap.size ≤ w4.heap.size := Nat.le_trans hz1 hb4.size
          clear x1 y1 R1 S1 ho HB ex0 ex1 ex2 ey0 ey1 ey2 hb4
          cases d with
          | true =>
            have HN := Lib.hid (show L ++ [⟨(i : Int), (j : Int)⟩] = placesTo m xs pm pk ys i ++ rowPl m xs pm pk ys i (j + 1) by rw [rowPl_yes HOC.out, HL.out, List.append_assoc])
            clear HL
            have hr := RdF.lit (F := pairF) (w := w4) (cs := #[.int .i64 (i : Int), .int .i64 (j : Int)]) (a := ⟨(i : Int), (j : Int)⟩) rfl (ok_small (by omega) (by omega))
            have oA := o4.alloc (.cells #[.int .i64 (i : Int), .int .i64 (j : Int)] pairF.t)
            have hz10 : w.heap.size ≤ (w4.alloc (.cells #[.int .i64 (i : Int), .int .i64 (j : Int)] pairF.t)).heap.size := by simp; omega
            have xA := x4.alloc (.cells #[.int .i64 (i : Int), .int .i64 (j : Int)] pairF.t)
            have yA := y4.alloc (.cells #[.int .i64 (i : Int), .int .i64 (j : Int)] pairF.t)
            have RA := R4.alloc (Nat.le_trans hB hz9) (.cells #[.int .i64 (i : Int), .int .i64 (j : Int)] pairF.t)
            have SA := S4.alloc (Nat.le_trans hB' hz9) (.cells #[.int .i64 (i : Int), .int .i64 (j : Int)] pairF.t)
            have HBA := Lib.hid (HB4.out.alloc hz9 (.cells #[.int .i64 (i : Int), .int .i64 (j : Int)] pairF.t))
            clear x4 y4 R4 S4 HB4
            go_wp2_with (refine wpList_appendF pairF rfl _ (.tmp 31) (.tmp 35) 36 (.agg #[.int .i64 0, .int .i64 0]) 16 rfl Try.underlying36 info_Pair rfl (by decide) (by decide) w.heap.size _ L [⟨(i : Int), (j : Int)⟩] w4.heap.size 0 1 1 (w4.heap.size + 1) rfl rfl oA hr (by simp; omega) hz10 ?_)
            intro A5 c5 w5 o5 hg5
            have x5 := xA.mark hg5 (row_ne oA.1 xA (by decide))
            have y5 := yA.mark hg5 (row_ne oA.1 yA (by decide))
            have R5 := RA.mark hg5 (fun q hq => Nat.le_trans hB (oA.bd q hq).1) (Nat.le_trans hB hz10)
            have S5 := SA.mark hg5 (fun q hq => Nat.le_trans hB' (oA.bd q hq).1) (Nat.le_trans hB' hz10)
            have HB5 := Lib.hid (HBA.out.grown hg5 hz10 (fun q hq => (oA.bd q hq).1))
            clear oA xA yA RA SA HBA hr o4 hg5
            go_wp2
            go_roundw
            case rel => exact ⟨j + 1, A5, c5, L ++ [⟨(i : Int), (j : Int)⟩], by omega, by go_num, by rw [List.length_append]; rfl, HN, by rw [List.length_append]; exact o5, x5, y5, R5, S5, HB5⟩
            case measure => simp [intOf]; omega
          | false =>
            have HN := Lib.hid (show L = placesTo m xs pm pk ys i ++ rowPl m xs pm pk ys i (j + 1) by rw [rowPl_no HOC.out]; exact HL.out)
            clear HL
            go_wp2
            go_roundw
            case rel => exact ⟨j + 1, A, c, L, by omega, by go_num, rfl, HN, o4, x4, y4, R4, S4, HB4⟩
            case measure => simp [intOf]; omega
        · have HN := Lib.hid (show L = placesTo m xs pm pk ys (i + 1) by rw [placesTo_succ, HL.out, show j = m + 1 - pm by omega])
          have hgt : ¬ (j : Int) < (m : Int) - (pm : Int) + 1 := by omega
          clear HL
          go_wp2
          go_roundw
          case rel => exact ⟨i + 1, A, c, L, by omega, by go_num, rfl, HN, ho, x1, y1, R1, S1, HB⟩
          case measure => simp [intOf]; omega
    · have HN := Lib.hid (show L = placesL m kk xs pm pk ys by rw [HL.out, placesL, show i = kk + 1 - pk by omega])
      have hgt : ¬ (i : Int) < (kk : Int) - (pk : Int) + 1 := by omega
      clear HL
      go_wp2
      go_ret
      rw [← HN.out]
      exact ⟨A, c, rfl, ho, HB.out⟩
end Go.Proofs.Ytpmhnklmhfadlaa
namespace Go.Proofs.Ytpmhnklmhfadlaa
open Go.RowKit

def placesX (W H : Int) (xs : List Int) (pW pH : Int) (ys : List Int) : List PairR := if twoOk W H xs pW pH ys = true then placesL W.toNat H.toNat xs pW.toNat pH.toNat ys else []
theorem places_no {W H : Int} {xs : List Int} {pW pH : Int} {ys : List Int} (h : goodB W H xs = false ∨ goodB pW pH ys = false) : placesX W H xs pW pH ys = [] ∧ twoOk W H xs pW pH ys = false := by
  have := two_no h
  simp [placesX, this]
theorem places_yes {W H : Int} {xs : List Int} {pW pH : Int} {ys : List Int} (h : goodB W H xs = true) (h' : goodB pW pH ys = true) : placesX W H xs pW pH ys = placesL W.toNat H.toNat xs pW.toNat pH.toNat ys ∧ twoOk W H xs pW pH ys = true := by simp [placesX, twoOk, h, h']
theorem placesX_len (W H : Int) (xs : List Int) (pW pH : Int) (ys : List Int) : (placesX W H xs pW pH ys).length ≤ 64 := by
  unfold placesX
  split
  · rename_i h
    simp only [twoOk, Bool.and_eq_true] at h
    obtain ⟨h1, h2⟩ := h
    have a := goodB_yes h1
    have b := goodB_yes h2
    exact placesL_len (by omega) (by omega) (by omega) (by omega)
  · simp
set_option maxRecDepth 100000 in
set_option maxHeartbeats 8000000 in
theorem implPlacesOf_any (W H : Int) (A : Option Addr) (n c B : Nat) (xs : List Int) (pW pH : Int) (A' : Option Addr) (n' c' B' : Nat) (ys : List Int) (w : World) (hR : Rd w B A n c xs) (hR' : Rd w B' A' n' c' ys) (hB : B ≤ w.heap.size) (hB' : B' ≤ w.heap.size) :
    Calls Try.prog 15 #[chartV W H (.slice A n c), chartV pW pH (.slice A' n' c')] w (OutF pairF w (placesX W H xs pW pH ys) (twoOk W H xs pW pH ys)) := by
  have hb0 := Lib.hid (((Below.refl w.heap.size w).alloc (Nat.le_refl _) (.cells #[.int .i64 W, .int .i64 H, .slice A n c] 26)).alloc (by simp) (.cells #[.int .i64 pW, .int .i64 pH, .slice A' n' c'] 26))
  have h1 := Lib.hid ((hR.alloc hB (.cells #[.int .i64 W, .int .i64 H, .slice A n c] 26)).alloc (by simp; omega) (.cells #[.int .i64 pW, .int .i64 pH, .slice A' n' c'] 26))
  have h2 := Lib.hid ((hR'.alloc hB' (.cells #[.int .i64 W, .int .i64 H, .slice A n c] 26)).alloc (by simp; omega) (.cells #[.int .i64 pW, .int .i64 pH, .slice A' n' c'] 26))
  have x0 := (Blk.new w #[.int .i64 W, .int .i64 H, .slice A n c] 26).alloc (.cells #[.int .i64 pW, .int .i64 pH, .slice A' n' c'] 26)
  have p0 := (Blk.new (w.alloc (.cells #[.int .i64 W, .int .i64 H, .slice A n c] 26)) #[.int .i64 pW, .int .i64 pH, .slice A' n' c'] 26).at_ (q := w.heap.size + 1) (by simp)
  by_cases g1 : goodB W H xs = true
  rotate_left
  · have hno := not_false g1
    have H' := Lib.hid (places_no (W := W) (H := H) (xs := xs) (pW := pW) (pH := pH) (ys := ys) (.inl hno))
    go_enter Try.func15, Try.ntmps15
    go_wp2_with fail
    refine (implIsChart_any W H A n c B xs _ h1.out (by first | omega | (simp; done) | (simp; omega))).mono ?_
    rintro e w1 ⟨rfl, hb⟩
    have HB := Lib.hid (hb0.out.trans (hb.mono (by simp; omega)))
    rw [hno]
    clear hb x0 p0
    go_wp2
    go_ret2
    rw [H'.out.1, H'.out.2]
    exact ⟨none, 0, rfl, OwnF.nil _ _ _, HB.out⟩
  by_cases g2 : goodB pW pH ys = true
  rotate_left
  · have hno := not_false g2
    have H' := Lib.hid (places_no (W := W) (H := H) (xs := xs) (pW := pW) (pH := pH) (ys := ys) (.inr hno))
    go_enter Try.func15, Try.ntmps15
    go_wp2_with fail
    refine (implIsChart_any W H A n c B xs _ h1.out (by first | omega | (simp; done) | (simp; omega))).mono ?_
    rintro e w1 ⟨rfl, hb⟩
    have HB := Lib.hid (hb0.out.trans (hb.mono (by simp; omega)))
    have p1 := p0.all hb
    have R2 := Lib.hid (h2.out.all hb (by simp; omega))
    have hz1 : w.heap.size ≤ w1.heap.size := HB.out.size
    have hz2 : B' ≤ w1.heap.size := Nat.le_trans hB' hz1
    have e0 := p1.cell 0
    have e1 := p1.cell 1
    have e2 := p1.cell 2
    rw [g1]
    clear hb x0 p0
    go_wp2_with fail
    refine (implIsChart_any pW pH A' n' c' B' ys _ R2.out (by first | omega | (simp; done) | (simp; omega))).mono ?_
    rintro e w2 ⟨rfl, hb⟩
    have HB2 := Lib.hid (HB.out.trans (hb.mono hz1))
    clear HB hb
    have HB := HB2
    rw [hno]
    go_wp2
    go_ret2
    rw [H'.out.1, H'.out.2]
    exact ⟨none, 0, rfl, OwnF.nil _ _ _, HB.out⟩
  obtain ⟨hPX, hTW⟩ := places_yes g1 g2
  rw [hPX, hTW]
  clear hPX hTW
  obtain ⟨m, kk, rfl, rfl, m1, m8, k1, k8, hl, h64, hl1, hcx⟩ := good_nat g1
  obtain ⟨pm, pk, rfl, rfl, pm1, pm8, pk1, pk8, hl', h64', hl1', hcy⟩ := good_nat g2
  simp only [Int.toNat_natCast] at *
  obtain rfl := hR.len
  obtain rfl := hR'.len
  obtain ⟨b, off, rfl, _, _⟩ := hR.cells (by omega)
  obtain ⟨b', off', rfl, _, _⟩ := hR'.cells (by omega)
  clear hR hR'
  go_enter Try.func15, Try.ntmps15
  go_wp2_with fail
  refine (implIsChart_any m kk _ _ c B xs _ h1.out (by simp; omega)).mono ?_
  rintro e w1 ⟨rfl, hb⟩
  have x1 := x0.all hb
  have p1 := p0.all hb
  have RA1 := Lib.hid (h1.out.all hb (by simp; omega))
  have RB1 := Lib.hid (h2.out.all hb (by simp; omega))
  have HB1 := Lib.hid (hb0.out.trans (hb.mono (by simp; omega)))
  have hz1 : w.heap.size ≤ w1.heap.size := HB1.out.size
  have e0 := p1.cell 0
  have e1 := p1.cell 1
  have e2 := p1.cell 2
  rw [g1]
  clear hb x0 p0 h1 h2 hb0 g1
  go_wp2_with fail
  refine (implIsChart_any pm pk _ _ c' B' ys _ RB1.out (Nat.le_trans hB' hz1)).mono ?_
  rintro e w2 ⟨rfl, hb⟩
  have x2 := x1.all hb
  have p2 := p1.all hb
  have RA := Lib.hid (RA1.out.all hb (Nat.le_trans hB hz1))
  have RB := Lib.hid (RB1.out.all hb (Nat.le_trans hB' hz1))
  have HB := Lib.hid (HB1.out.trans (hb.mono hz1))
  have hz2 : w.heap.size ≤ w2.heap.size := HB.out.size
  rw [g2]
  clear hb x1 p1 RA1 RB1 HB1 hz1 e0 e1 e2 g2
  have ex0 := x2.cell 0
  have ex1 := x2.cell 1
  have ex2 := x2.cell 2
  have ep0 := p2.cell 0
  have ep1 := p2.cell 1
  have ep2 := p2.cell 2
  go_wp2_with fail
  refine (placesIn_any m kk pm pk b off c B b' off' c' B' xs ys _ RA.out RB.out (Nat.le_trans hB hz2) (Nat.le_trans hB' hz2) m1 m8 k8 pm1 pk1 pm8 pk8 hl hl').mono ?_
  rintro e w3 ⟨A3, c3, rfl, own3, hb3⟩
  have HB3 := Lib.hid (HB.out.trans (hb3.mono hz2))
  replace own3 := own3.mono hz2
  clear hb3 x2 p2 RA RB HB ex0 ex1 ex2 ep0 ep1 ep2
  go_wp2
  go_ret2
  exact ⟨A3, c3, rfl, own3, HB3.out⟩
set_option maxRecDepth 100000 in
set_option maxHeartbeats 8000000 in
theorem specPlacesOf_any (W H : Int) (A : Option Addr) (n c B : Nat) (xs : List Int) (pW pH : Int) (A' : Option Addr) (n' c' B' : Nat) (ys : List Int) (w : World) (hR : Rd w B A n c xs) (hR' : Rd w B' A' n' c' ys) (hB : B ≤ w.heap.size) (hB' : B' ≤ w.heap.size) :
    Calls Try.prog 16 #[chartV W H (.slice A n c), chartV pW pH (.slice A' n' c')] w (OutF pairF w (placesX W H xs pW pH ys) (twoOk W H xs pW pH ys)) := by
  have hb0 := Lib.hid (((Below.refl w.heap.size w).alloc (Nat.le_refl _) (.cells #[.int .i64 W, .int .i64 H, .slice A n c] 26)).alloc (by simp) (.cells #[.int .i64 pW, .int .i64 pH, .slice A' n' c'] 26))
  have h1 := Lib.hid ((hR.alloc hB (.cells #[.int .i64 W, .int .i64 H, .slice A n c] 26)).alloc (by simp; omega) (.cells #[.int .i64 pW, .int .i64 pH, .slice A' n' c'] 26))
  have h2 := Lib.hid ((hR'.alloc hB' (.cells #[.int .i64 W, .int .i64 H, .slice A n c] 26)).alloc (by simp; omega) (.cells #[.int .i64 pW, .int .i64 pH, .slice A' n' c'] 26))
  have x0 := (Blk.new w #[.int .i64 W, .int .i64 H, .slice A n c] 26).alloc (.cells #[.int .i64 pW, .int .i64 pH, .slice A' n' c'] 26)
  have p0 := (Blk.new (w.alloc (.cells #[.int .i64 W, .int .i64 H, .slice A n c] 26)) #[.int .i64 pW, .int .i64 pH, .slice A' n' c'] 26).at_ (q := w.heap.size + 1) (by simp)
  by_cases g1 : goodB W H xs = true
  rotate_left
  · have hno := not_false g1
    have H' := Lib.hid (places_no (W := W) (H := H) (xs := xs) (pW := pW) (pH := pH) (ys := ys) (.inl hno))
    go_enter Try.func16, Try.ntmps16
    go_wp2_with fail
    refine (l2Good_any W H A n c B xs _ h1.out (by first | omega | (simp; done) | (simp; omega))).mono ?_
    rintro e w1 ⟨rfl, hb⟩
    have HB := Lib.hid (hb0.out.trans (hb.mono (by simp; omega)))
    rw [hno]
    clear hb x0 p0
    go_wp2
    go_ret2
    rw [H'.out.1, H'.out.2]
    exact ⟨_, 0, rfl, OwnF.empty pairF HB.out.size, HB.out.alloc HB.out.size _⟩
  by_cases g2 : goodB pW pH ys = true
  rotate_left
  · have hno := not_false g2
    have H' := Lib.hid (places_no (W := W) (H := H) (xs := xs) (pW := pW) (pH := pH) (ys := ys) (.inr hno))
    go_enter Try.func16, Try.ntmps16
    go_wp2_with fail
    refine (l2Good_any W H A n c B xs _ h1.out (by first | omega | (simp; done) | (simp; omega))).mono ?_
    rintro e w1 ⟨rfl, hb⟩
    have HB := Lib.hid (hb0.out.trans (hb.mono (by simp; omega)))
    have p1 := p0.all hb
    have R2 := Lib.hid (h2.out.all hb (by simp; omega))
    have hz1 : w.heap.size ≤ w1.heap.size := HB.out.size
    have hz2 : B' ≤ w1.heap.size := Nat.le_trans hB' hz1
    have e0 := p1.cell 0
    have e1 := p1.cell 1
    have e2 := p1.cell 2
    rw [g1]
    clear hb x0 p0
    go_wp2_with fail
    refine (l2Good_any pW pH A' n' c' B' ys _ R2.out (by first | omega | (simp; done) | (simp; omega))).mono ?_
    rintro e w2 ⟨rfl, hb⟩
    have HB2 := Lib.hid (HB.out.trans (hb.mono hz1))
    clear HB hb
    have HB := HB2
    rw [hno]
    go_wp2
    go_ret2
    rw [H'.out.1, H'.out.2]
    exact ⟨_, 0, rfl, OwnF.empty pairF HB.out.size, HB.out.alloc HB.out.size _⟩
  obtain ⟨hPX, hTW⟩ := places_yes g1 g2
  rw [hPX, hTW]
  clear hPX hTW
  obtain ⟨m, kk, rfl, rfl, m1, m8, k1, k8, hl, h64, hl1, hcx⟩ := good_nat g1
  obtain ⟨pm, pk, rfl, rfl, pm1, pm8, pk1, pk8, hl', h64', hl1', hcy⟩ := good_nat g2
  simp only [Int.toNat_natCast] at *
  obtain rfl := hR.len
  obtain rfl := hR'.len
  obtain ⟨b, off, rfl, _, _⟩ := hR.cells (by omega)
  obtain ⟨b', off', rfl, _, _⟩ := hR'.cells (by omega)
  clear hR hR'
  go_enter Try.func16, Try.ntmps16
  go_wp2_with fail
  refine (l2Good_any m kk _ _ c B xs _ h1.out (by simp; omega)).mono ?_
  rintro e w1 ⟨rfl, hb⟩
  have x1 := x0.all hb
  have p1 := p0.all hb
  have RA1 := Lib.hid (h1.out.all hb (by simp; omega))
  have RB1 := Lib.hid (h2.out.all hb (by simp; omega))
  have HB1 := Lib.hid (hb0.out.trans (hb.mono (by simp; omega)))
  have hz1 : w.heap.size ≤ w1.heap.size := HB1.out.size
  have e0 := p1.cell 0
  have e1 := p1.cell 1
  have e2 := p1.cell 2
  rw [g1]
  clear hb x0 p0 h1 h2 hb0 g1
  go_wp2_with fail
  refine (l2Good_any pm pk _ _ c' B' ys _ RB1.out (Nat.le_trans hB' hz1)).mono ?_
  rintro e w2 ⟨rfl, hb⟩
  have x2 := x1.all hb
  have p2 := p1.all hb
  have RA := Lib.hid (RA1.out.all hb (Nat.le_trans hB hz1))
  have RB := Lib.hid (RB1.out.all hb (Nat.le_trans hB' hz1))
  have HB := Lib.hid (HB1.out.trans (hb.mono hz1))
  have hz2 : w.heap.size ≤ w2.heap.size := HB.out.size
  rw [g2]
  clear hb x1 p1 RA1 RB1 HB1 hz1 e0 e1 e2 g2
  have ex0 := x2.cell 0
  have ex1 := x2.cell 1
  have ex2 := x2.cell 2
  have ep0 := p2.cell 0
  have ep1 := p2.cell 1
  have ep2 := p2.cell 2
  go_wp2_with fail
  refine (l6Places_any m kk pm pk b off c B b' off' c' B' xs ys _ RA.out RB.out (Nat.le_trans hB hz2) (Nat.le_trans hB' hz2) m8 k8 pm1 pk1 pm8 pk8 hl hl' (by have := hl.out; omega)).mono ?_
  rintro e w3 ⟨A3, c3, rfl, own3, hb3⟩
  have HB3 := Lib.hid (HB.out.trans (hb3.mono hz2))
  replace own3 := own3.mono hz2
  clear hb3 x2 p2 RA RB HB ex0 ex1 ex2 ep0 ep1 ep2
  go_wp2
  go_ret2
  exact ⟨A3, c3, rfl, own3, HB3.out⟩
end Go.Proofs.Ytpmhnklmhfadlaa
namespace Go.Proofs.Ytpmhnklmhfadlaa
open Go.RowKit

set_option maxRecDepth 100000 in
set_option maxHeartbeats 2000000 in
theorem indexP_any (A : Option Addr) (n c B q0 q1 : Nat) (xs : List PairR) (w : World) (h : RdF pairF w B A n c xs) (hB : B ≤ w.heap.size) (p : PairR → Bool)
    (hp : Hid (∀ (W : World) (a : PairR), a ∈ xs → Below w.heap.size w W → Calls Try.prog 46 #[.agg #[.int .i64 a.f0, .int .i64 a.f1], .pointer (some ⟨q0, 0, none⟩), .pointer (some ⟨q1, 0, none⟩)] W (Out W (.bool (p a))))) :
    Calls Try.prog 75 #[.slice A n c, .func (.func 46) #[] #[.pointer (some ⟨q0, 0, none⟩), .pointer (some ⟨q1, 0, none⟩)]] w fun e w' => ∃ r : Int, e = .returned (.int .i64 r) ∧ decide (0 ≤ r) = xs.any p ∧ Below w.heap.size w w' := by
  have hl := h.len
  have hlt := h.len_lt
  have hb0 := Lib.hid (Below.refl w.heap.size w)
  go_enter Try.func75, Try.ntmps75
  go_wp2
  go_loopw [8] (fun s8 wr => ∃ k : Nat, k ≤ n ∧ s8 = .int .i64 k ∧ Hid ((xs.take k).any p = false) ∧ RdF pairF wr B A n c xs ∧ Hid (Below w.heap.size w wr)) (fun s8 _ => n - (intOf s8).toNat)
  case atStart => exact ⟨0, Nat.zero_le _, rfl, by simp [Hid], h, hb0⟩
  case round =>
    clear h hb0
    obtain ⟨k, hk, rfl, HK, h1, HB⟩ := hrel
    by_cases hkn : k < n
    · obtain ⟨b, off, a, rfl, hb, _, HX, e0, e1⟩ := Pair_at h1 hkn
      have hwz := HB.out.size
      have hbz : b < wr.heap.size := by omega
      have hmem : a ∈ xs := List.mem_of_getElem? HX.out
      have hcall := Lib.hid (hp.out wr a hmem HB.out)
      have HN := Lib.hid (show (xs.take (k + 1)).any p = p a by 
        obtain ⟨hi, rfl⟩ := List.getElem?_eq_some_iff.1 HX.out
        rw [List.take_succ_eq_append_getElem hi, List.any_append, HK.out]
        simp)
      have hsub := Lib.hid (show p a = true → xs.any p = true from fun hh => List.any_eq_true.2 ⟨a, hmem, hh⟩)
      clear HX hmem
      cases hq : p a with
      | true =>
        rw [hq] at HN hcall
        have hd := hsub.out hq
        clear hsub hq
        go_wp2_with (go_at_call 46; refine hcall.out.mono ?_; rintro e w2 ⟨rfl, hb2⟩)
        go_ret
        exact ⟨(k : Int), rfl, by rw [hd]; exact decide_eq_true (by omega), HB.out.trans (hb2.mono hwz)⟩
      | false =>
        rw [hq] at HN hcall
        clear hsub hq
        go_wp2_with (go_at_call 46; refine hcall.out.mono ?_; rintro e w2 ⟨rfl, hb2⟩)
        have h2 := h1.all hb2 (Nat.le_trans hB hwz)
        have HB2 := Lib.hid (HB.out.trans (hb2.mono hwz))
        go_roundw
        case rel => exact ⟨k + 1, by omega, by go_num, HN, h2, HB2⟩
        case measure => simp [intOf]; omega
    · obtain rfl : k = n := by omega
      have hall : xs.any p = false := by 
        have := HK.out
        rwa [List.take_of_length_le (by omega)] at this
      go_wp2
      go_ret
      exact ⟨-1, rfl, by rw [hall]; rfl, HB.out⟩
set_option maxRecDepth 100000 in
set_option maxHeartbeats 1000000 in
theorem containsP_any (A : Option Addr) (n c B q0 q1 : Nat) (xs : List PairR) (w : World) (h : RdF pairF w B A n c xs) (hB : B ≤ w.heap.size) (p : PairR → Bool)
    (hp : Hid (∀ (W : World) (a : PairR), a ∈ xs → Below w.heap.size w W → Calls Try.prog 46 #[.agg #[.int .i64 a.f0, .int .i64 a.f1], .pointer (some ⟨q0, 0, none⟩), .pointer (some ⟨q1, 0, none⟩)] W (Out W (.bool (p a))))) (d : Bool) (hd : xs.any p = d) :
    Calls Try.prog 48 #[.slice A n c, .func (.func 46) #[] #[.pointer (some ⟨q0, 0, none⟩), .pointer (some ⟨q1, 0, none⟩)]] w (Out w (.bool d)) := by
  go_enter Try.func48, Try.ntmps48
  go_wp2_with (go_at_call 75; refine (indexP_any A n c B q0 q1 xs w h hB p hp).mono ?_; rintro e w2 ⟨r, rfl, hr, hb2⟩)
  go_ret
  exact ⟨ret_bool (by rw [← hd, ← hr]), hb2⟩
end Go.Proofs.Ytpmhnklmhfadlaa
namespace Go.Proofs.Ytpmhnklmhfadlaa
open Go.RowKit

theorem difference_eq (a b v : Int) (w : World) (ha : -1000 ≤ a ∧ a ≤ 1000) (hb : -1000 ≤ b ∧ b ≤ 1000) (hv : mostI (b - a) (-(b - a)) = v) :
    Calls Try.prog 47 #[.int .i64 a, .int .i64 b] w fun e w' => e = .returned (.int .i64 v) ∧ w = w' := by
  have h1 : IntKind.i64.wrap (a - b) = a - b := IntWalk.i64_in _ (by omega)
  have h2 : IntKind.i64.wrap (b - a) = b - a := IntWalk.i64_in _ (by omega)
  go_enter Try.func47, Try.ntmps47
  go_wp2
  go_ret
  exact ⟨ret_int (by rw [← hv]; unfold mostI; omega), by first | rfl | trivial⟩
set_option maxRecDepth 100000 in
set_option maxHeartbeats 2000000 in
theorem overlaps_eq (q0 q1 pm pk r2 c2 r c : Nat) (w : World) (hr : r ≤ 8) (hc : c ≤ 8) (hr2 : r2 ≤ 8) (hc2 : c2 ≤ 8) (g0 : w.cell? ⟨q0, 0, none⟩ = some (.int .i64 (r : Int))) (g1 : w.cell? ⟨q0, 1, none⟩ = some (.int .i64 (c : Int))) (hz0 : q0 < w.heap.size)
    (f0 : w.cell? ⟨q1, 0, none⟩ = some (.int .i64 (pm : Int))) (f1 : w.cell? ⟨q1, 1, none⟩ = some (.int .i64 (pk : Int))) (hz1 : q1 < w.heap.size) (d : Bool) (hd : nearB pm pk ⟨(r : Int), (c : Int)⟩ ⟨(r2 : Int), (c2 : Int)⟩ = d) :
    Calls Try.prog 46 #[.agg #[.int .i64 (r2 : Int), .int .i64 (c2 : Int)], .pointer (some ⟨q0, 0, none⟩), .pointer (some ⟨q1, 0, none⟩)] w (Out w (.bool d)) := by
  have hb0 := Lib.hid ((Below.refl w.heap.size w).alloc (Nat.le_refl _) (.cells #[.int .i64 (r2 : Int), .int .i64 (c2 : Int)] 60))
  obtain ⟨v1, HV1⟩ : ∃ v1, Hid (mostI ((r : Int) - (r2 : Int)) (-((r : Int) - (r2 : Int))) = v1) := ⟨_, rfl⟩
  obtain ⟨v2, HV2⟩ : ∃ v2, Hid (mostI ((c : Int) - (c2 : Int)) (-((c : Int) - (c2 : Int))) = v2) := ⟨_, rfl⟩
  have HN := Lib.hid (show (decide (v1 < (pk : Int)) && decide (v2 < (pm : Int))) = d by rw [← hd, ← HV1.out, ← HV2.out]; rfl)
  have hrr : -1000 ≤ (r : Int) ∧ (r : Int) ≤ 1000 := by omega
  have hcc : -1000 ≤ (c : Int) ∧ (c : Int) ≤ 1000 := by omega
  have hrr2 : -1000 ≤ (r2 : Int) ∧ (r2 : Int) ≤ 1000 := by omega
  have hcc2 : -1000 ≤ (c2 : Int) ∧ (c2 : Int) ≤ 1000 := by omega
  clear hd hr hc hr2 hc2
  by_cases c1 : v1 < (pk : Int)
  · have d1 : decide (v1 < (pk : Int)) = true := decide_eq_true c1
    by_cases c2' : v2 < (pm : Int)
    · have d2 : decide (v2 < (pm : Int)) = true := decide_eq_true c2'
      have HE := Lib.hid (show d = true by rw [← HN.out, d1, d2]; rfl)
      go_enter Try.func46, Try.ntmps46
      go_wp2
      go_quiet (first | (go_at_call 47; (with_reducible refine (difference_eq (r2 : Int) (r : Int) v1 _ hrr2 hrr HV1.out).mono ?_); rintro e wy ⟨rfl, rfl⟩; exact ⟨rfl, _, rfl⟩) | (go_at_call 47; (with_reducible refine (difference_eq (c2 : Int) (c : Int) v2 _ hcc2 hcc HV2.out).mono ?_); rintro e wy ⟨rfl, rfl⟩; exact ⟨rfl, _, rfl⟩))
      go_wp2
      go_ret
      exact ⟨ret_bool (by rw [HE.out]), by first | exact hb0.out | exact belowN hb0.out _ | exact belowN (belowN hb0.out _) _⟩
    · have d2 : decide (v2 < (pm : Int)) = false := decide_eq_false c2'
      have HE := Lib.hid (show d = false by rw [← HN.out, d1, d2]; rfl)
      go_enter Try.func46, Try.ntmps46
      go_wp2
      go_quiet (first | (go_at_call 47; (with_reducible refine (difference_eq (r2 : Int) (r : Int) v1 _ hrr2 hrr HV1.out).mono ?_); rintro e wy ⟨rfl, rfl⟩; exact ⟨rfl, _, rfl⟩) | (go_at_call 47; (with_reducible refine (difference_eq (c2 : Int) (c : Int) v2 _ hcc2 hcc HV2.out).mono ?_); rintro e wy ⟨rfl, rfl⟩; exact ⟨rfl, _, rfl⟩))
      go_wp2
      go_ret
      exact ⟨ret_bool (by rw [HE.out]), by first | exact hb0.out | exact belowN hb0.out _ | exact belowN (belowN hb0.out _) _⟩
  · have d1 : decide (v1 < (pk : Int)) = false := decide_eq_false c1
    have HE := Lib.hid (show d = false by rw [← HN.out, d1]; rfl)
    go_enter Try.func46, Try.ntmps46
    go_wp2
    go_quiet (first | (go_at_call 47; (with_reducible refine (difference_eq (r2 : Int) (r : Int) v1 _ hrr2 hrr HV1.out).mono ?_); rintro e wy ⟨rfl, rfl⟩; exact ⟨rfl, _, rfl⟩))
    go_wp2
    go_ret
    exact ⟨ret_bool (by rw [HE.out]), by first | exact hb0.out | exact belowN hb0.out _ | exact belowN (belowN hb0.out _) _⟩
set_option maxRecDepth 100000 in
set_option maxHeartbeats 8000000 in
theorem implApartPlaces_any (W H : Int) (A : Option Addr) (n c B : Nat) (xs : List Int) (pW pH : Int) (A' : Option Addr) (n' c' B' : Nat) (ys : List Int) (w : World) (hR : Rd w B A n c xs) (hR' : Rd w B' A' n' c' ys) (hB : B ≤ w.heap.size) (hB' : B' ≤ w.heap.size) :
    Calls Try.prog 18 #[chartV W H (.slice A n c), chartV pW pH (.slice A' n' c')] w (Out w (.tuple #[.int .i64 (apartN W H xs pW pH ys), .bool (twoOk W H xs pW pH ys)])) := by
  have hb0 := Lib.hid (((Below.refl w.heap.size w).alloc (Nat.le_refl _) (.cells #[.int .i64 W, .int .i64 H, .slice A n c] 26)).alloc (by simp) (.cells #[.int .i64 pW, .int .i64 pH, .slice A' n' c'] 26))
  have h1 := Lib.hid ((hR.alloc hB (.cells #[.int .i64 W, .int .i64 H, .slice A n c] 26)).alloc (by simp; omega) (.cells #[.int .i64 pW, .int .i64 pH, .slice A' n' c'] 26))
  have h2 := Lib.hid ((hR'.alloc hB' (.cells #[.int .i64 W, .int .i64 H, .slice A n c] 26)).alloc (by simp; omega) (.cells #[.int .i64 pW, .int .i64 pH, .slice A' n' c'] 26))
  have x0 := (Blk.new w #[.int .i64 W, .int .i64 H, .slice A n c] 26).alloc (.cells #[.int .i64 pW, .int .i64 pH, .slice A' n' c'] 26)
  have p0 := (Blk.new (w.alloc (.cells #[.int .i64 W, .int .i64 H, .slice A n c] 26)) #[.int .i64 pW, .int .i64 pH, .slice A' n' c'] 26).at_ (q := w.heap.size + 1) (by simp)
  obtain ⟨L0, HL0⟩ : ∃ L0, Hid (placesX W H xs pW pH ys = L0) := ⟨_, rfl⟩
  have hex := x0.cell 0
  have hep := p0.cell 0
  go_enter Try.func18, Try.ntmps18
  go_wp2_with fail
  refine (implPlacesOf_any W H A n c B xs pW pH A' n' c' B' ys _ h1.out h2.out (by simp; omega) (by simp; omega)).mono ?_
  rintro e w3 ⟨A3, c3, rfl, oL, hb⟩
  have p3 := p0.all hb
  have HB3 := Lib.hid (hb0.out.trans (hb.mono (by simp; omega)))
  have hz4 : w.heap.size ≤ w3.heap.size := HB3.out.size
  have hzp := p3.lt
  replace oL := oL.mono (lo' := w.heap.size) (by simp; omega)
  clear hb x0 p0 h1 h2 hb0 hex hep
  by_cases hok : twoOk W H xs pW pH ys = true
  rotate_left
  · have hno := not_false hok
    have hv : apartN W H xs pW pH ys = 0 := by unfold apartN; rw [hno]; rfl
    have HV := Lib.hid hv
    have HN := Lib.hid hno
    rw [hno]
    clear oL hv hok
    go_wp2
    go_ret2
    exact ⟨ret_ib HV.out.symm HN.out.symm, HB3.out⟩
  have hok2 := hok
  simp only [twoOk, Bool.and_eq_true] at hok2
  obtain ⟨g1, g2⟩ := hok2
  obtain ⟨hPX, _⟩ := places_yes g1 g2
  have HV := Lib.hid (apart_yes6 g1 g2).1
  rw [hok]
  obtain ⟨m, kk, rfl, rfl, m1, m8, k1, k8, _, _, _, _⟩ := good_nat g1
  obtain ⟨pm, pk, rfl, rfl, pm1, pm8, pk1, pk8, _, _, _, _⟩ := good_nat g2
  simp only [Int.toNat_natCast] at hPX HV
  rw [hPX] at oL ⊢ HL0
  have hLen : (placesL m kk xs pm pk ys).length ≤ 64 := placesL_len m8 k8 pm1 pk1
  have HMEM : Hid (∀ a ∈ placesL m kk xs pm pk ys, ∃ r q : Nat, a = ⟨(r : Int), (q : Int)⟩ ∧ r ≤ 8 ∧ q ≤ 8) := Lib.hid fun a ha => by
    obtain ⟨r, q, e, hr, hq, _⟩ := placesTo_mem ha
    exact ⟨r, q, e, by omega, by omega⟩
  have HVV := Lib.hid (HV.out)
  clear HV
  generalize placesL m kk xs pm pk ys = L at *
  have HOK := Lib.hid hok
  clear hPX HL0 g1 g2 hok
  have oT : OwnF pairF w3 w3.heap.size (.slice none 0 0) [] := OwnF.nil _ _ _
  have hz5 : w3.heap.size ≤ w3.heap.size := Nat.le_refl _
  go_wp2
  go_loopw [8, 22] (fun s8 s22 wr => ∃ (i : Nat) (A : Option Addr) (c : Nat) (T : List PairR), i ≤ L.length ∧ s22 = .int .i64 i ∧ s8 = .slice A T.length c ∧ Hid (T = takenL pm pk [] (L.take i)) ∧ OwnF pairF wr w3.heap.size (.slice A T.length c) T ∧ OwnF pairF wr w.heap.size (.slice A3 L.length c3) L ∧
      Blk wr (w.heap.size + 1) 26 #[.int .i64 pm, .int .i64 pk, .slice A' n' c'] ∧ Hid (Below w.heap.size w wr) ∧ w3.heap.size ≤ wr.heap.size ∧ (∀ k, (Value.slice A3 L.length c3).ownBlock = some k → k < w3.heap.size))
    (fun _ s22 _ => L.length - (intOf s22).toNat)
  case atStart => exact ⟨0, _, 0, [], Nat.zero_le _, rfl, rfl, rfl, oT, oL, p3.at_ (by simp), HB3, hz5, fun k hk => (oL.bd k hk).2⟩
  case round =>
    clear oT oL p3 HB3 hz5
    obtain ⟨i, A, c, T, hi, rfl, rfl, HT, oT, oL, p3, HB, hzr, hLb⟩ := hrel
    have hTl : T.length ≤ 64 := by
      rw [HT.out]
      have h1 := takenL_len (pm := pm) (pk := pk) (L.take i) []
      rw [List.length_take] at h1
      simp at h1
      omega
    by_cases hlt : i < L.length
    · obtain ⟨bL, oLf, a, rfl, hbL, _, HX, e0, e1⟩ := Pair_at oL.rd hlt
      obtain ⟨r, q, rfl, hr8, hq8⟩ := HMEM.out a (List.mem_of_getElem? HX.out)
      have hTM := Lib.hid (show ∀ t ∈ T, ∃ r q : Nat, t = ⟨(r : Int), (q : Int)⟩ ∧ r ≤ 8 ∧ q ≤ 8 from fun t ht => by
        rw [HT.out] at ht
        rcases takenL_mem _ _ _ ht with h | h
        · simp at h
        · exact HMEM.out t (List.mem_of_mem_take h))
      have hstep := Lib.hid (takenL_step (pm := pm) (pk := pk) HX.out)
      have hwz := HB.out.size
      have hpl := p3.lt
      obtain ⟨d, HD⟩ : ∃ d, Hid (T.any (fun t => nearB pm pk ⟨(r : Int), (q : Int)⟩ t) = d) := ⟨_, rfl⟩
      have hfree := Lib.hid (show freeB pm pk ⟨(r : Int), (q : Int)⟩ T = !d by
        rw [← HD.out]
        unfold freeB
        rw [List.not_any_eq_all_not])
      have o5 := oT.alloc (.cells #[.int .i64 (r : Int), .int .i64 (q : Int)] 60)
      have oL5 := oL.alloc (.cells #[.int .i64 (r : Int), .int .i64 (q : Int)] 60)
      have p5 := p3.alloc (.cells #[.int .i64 (r : Int), .int .i64 (q : Int)] 60)
      have y5 := Blk.new wr #[.int .i64 (r : Int), .int .i64 (q : Int)] 60
      have HB5 := Lib.hid (HB.out.alloc hwz (.cells #[.int .i64 (r : Int), .int .i64 (q : Int)] 60))
      have hp := Lib.hid (show ∀ (W : World) (a : PairR), a ∈ T → Below (wr.alloc (.cells #[.int .i64 (r : Int), .int .i64 (q : Int)] 60)).heap.size (wr.alloc (.cells #[.int .i64 (r : Int), .int .i64 (q : Int)] 60)) W → Calls Try.prog 46 #[.agg #[.int .i64 a.f0, .int .i64 a.f1], .pointer (some ⟨wr.heap.size, 0, none⟩), .pointer (some ⟨w.heap.size + 1, 0, none⟩)] W (Out W (.bool ((fun t => nearB pm pk ⟨(r : Int), (q : Int)⟩ t) a))) from fun W t ht hbW => by
        obtain ⟨r2, q2, rfl, hr2, hq2⟩ := hTM.out t ht
        have yW := y5.all hbW
        have pW := p5.all hbW
        exact overlaps_eq wr.heap.size (w.heap.size + 1) pm pk r2 q2 r q W hr8 hq8 hr2 hq2 (yW.cell 0) (yW.cell 1) yW.lt (pW.cell 0) (pW.cell 1) pW.lt _ rfl)
      clear oT oL p3 HB HX
      go_wp2_with fail
      refine (containsP_any A T.length c _ wr.heap.size (w.heap.size + 1) T _ o5.rd (Nat.le_refl _) (fun t => nearB pm pk ⟨(r : Int), (q : Int)⟩ t) hp d HD.out).mono ?_
      rintro e w6 ⟨rfl, hb6⟩
      have o6 := o5.all hb6
      have oL6 := oL5.all hb6
      have p6 := p5.all hb6
      have y6 := y5.all hb6
      have HB6 := Lib.hid (HB5.out.trans (hb6.mono HB5.out.size))
      have hz6 : w3.heap.size ≤ w6.heap.size := Nat.le_trans hzr (Nat.le_trans (by simp) hb6.size)
      have hzw : w.heap.size ≤ w6.heap.size := HB6.out.size
      clear hb6 o5 oL5 p5 y5 HB5 hp e0 e1
      cases d with
      | true =>
        have HN := Lib.hid (show T = takenL pm pk [] (L.take (i + 1)) by
          rw [hstep.out, ← HT.out, hfree.out]; rfl)
        clear HT hstep hfree y6
        go_wp2
        go_roundw
        case rel => exact ⟨i + 1, A, c, T, by omega, by go_num, rfl, HN, o6, oL6, p6, HB6, hz6, hLb⟩
        case measure => simp [intOf]; omega
      | false =>
        have HN := Lib.hid (show T ++ [⟨(r : Int), (q : Int)⟩] = takenL pm pk [] (L.take (i + 1)) by
          rw [hstep.out, ← HT.out, hfree.out]; rfl)
        clear HT hstep hfree
        have y60 := y6.cell 0
        have y61 := y6.cell 1
        have hr := RdF.lit (F := pairF) (w := w6) (cs := #[.int .i64 (r : Int), .int .i64 (q : Int)]) (a := ⟨(r : Int), (q : Int)⟩) rfl (ok_small (by omega) (by omega))
        have oA := o6.alloc (.cells #[.int .i64 (r : Int), .int .i64 (q : Int)] pairF.t)
        have oLA := oL6.alloc (.cells #[.int .i64 (r : Int), .int .i64 (q : Int)] pairF.t)
        have pA := p6.alloc (.cells #[.int .i64 (r : Int), .int .i64 (q : Int)] pairF.t)
        have HBA := Lib.hid (HB6.out.alloc hzw (.cells #[.int .i64 (r : Int), .int .i64 (q : Int)] pairF.t))
        have hz10 : w3.heap.size ≤ (w6.alloc (.cells #[.int .i64 (r : Int), .int .i64 (q : Int)] pairF.t)).heap.size := by simp; omega
        clear o6 oL6 p6 HB6 y6
        go_wp2_with (refine wpList_appendF pairF rfl _ (.tmp 31) (.tmp 33) 36 (.agg #[.int .i64 0, .int .i64 0]) 16 rfl Try.underlying36 info_Pair rfl (by decide) (by decide) w3.heap.size _ T [⟨(r : Int), (q : Int)⟩] w6.heap.size 0 1 1 (w6.heap.size + 1) rfl rfl oA hr (by simp; omega) hz10 ?_)
        intro A7 c7 w7 o7 hg7
        have oL7 := oLA.mark hg7 (fun k k' hk hk' e => by have h1 := (oA.bd k hk).1; have h2 := hLb k' hk'; omega)
        have p7 := pA.mark hg7 (row_ne oA.1 pA (by decide))
        have HB7 := Lib.hid (HBA.out.grown hg7 (by simp; omega) (fun k hk => Nat.le_trans hz4 (oA.bd k hk).1))
        have hz7 : w3.heap.size ≤ w7.heap.size := Nat.le_trans hz10 hg7.size
        clear oA oLA pA HBA hr hg7 y60 y61
        go_wp2
        go_roundw
        case rel => exact ⟨i + 1, A7, c7, T ++ [⟨(r : Int), (q : Int)⟩], by omega, by go_num, by rw [List.length_append]; rfl, HN, by rw [List.length_append]; exact o7, oL7, p7, HB7, hz7, hLb⟩
        case measure => simp [intOf]; omega
    · obtain rfl : i = L.length := by omega
      have HE := Lib.hid (show (apartN m kk xs pm pk ys) = (T.length : Int) by
        rw [HVV.out, HT.out, List.take_of_length_le (Nat.le_refl _)])
      clear HVV HT
      go_wp2
      go_ret2
      exact ⟨ret_ib HE.out.symm HOK.out.symm, HB.out⟩
end Go.Proofs.Ytpmhnklmhfadlaa
namespace Go.Proofs.Ytpmhnklmhfadlaa
open Go.RowKit

set_option maxRecDepth 100000 in
set_option maxHeartbeats 2000000 in
theorem indexC_any (A : Option Addr) (n c B q0 : Nat) (xs : List ChR) (w : World) (h : RdF chartsF w B A n c xs) (hB : B ≤ w.heap.size) (p : Nat → Bool)
    (hp : Hid (∀ (W : World) (j : Nat) (a : ChR), xs[j]? = some a → Below w.heap.size w W → Calls Try.prog 77 #[.agg #[.int .i64 a.W, .int .i64 a.H, .slice a.A a.n a.c], .pointer (some ⟨q0, 0, none⟩)] W (Out W (.bool (p j))))) :
    Calls Try.prog 99 #[.slice A n c, .func (.func 77) #[] #[.pointer (some ⟨q0, 0, none⟩)]] w fun e w' => ∃ r : Int, e = .returned (.int .i64 r) ∧ decide (0 ≤ r) = (List.range n).any p ∧ Below w.heap.size w w' := by
  have hl := h.len
  have hlt := h.len_lt
  have hb0 := Lib.hid (Below.refl w.heap.size w)
  go_enter Try.func99, Try.ntmps99
  go_wp2
  go_loopw [8] (fun s8 wr => ∃ k : Nat, k ≤ n ∧ s8 = .int .i64 k ∧ Hid ((List.range k).any p = false) ∧ RdF chartsF wr B A n c xs ∧ Hid (Below w.heap.size w wr)) (fun s8 _ => n - (intOf s8).toNat)
  case atStart => exact ⟨0, Nat.zero_le _, rfl, by simp [Hid], h, hb0⟩
  case round =>
    clear h hb0
    obtain ⟨k, hk, rfl, HK, h1, HB⟩ := hrel
    by_cases hkn : k < n
    · obtain ⟨b, off, a, rfl, hb, HX, e0, e1, e2⟩ := Ch_at h1 hkn
      have hwz := HB.out.size
      have hbz : b < wr.heap.size := by omega
      have hmem : a ∈ xs := List.mem_of_getElem? HX.out
      have hcall := Lib.hid (hp.out wr k a HX.out HB.out)
      have HN := Lib.hid (show (List.range (k + 1)).any p = p k by rw [List.range_succ, List.any_append, HK.out]; simp)
      have hsub := Lib.hid (show p k = true → (List.range n).any p = true from fun hh => List.any_eq_true.2 ⟨k, List.mem_range.2 hkn, hh⟩)
      clear HX hmem
      cases hq : p k with
      | true =>
        rw [hq] at HN hcall
        have hd := hsub.out hq
        clear hsub hq
        go_wp2_with (go_at_call 77; refine hcall.out.mono ?_; rintro e w2 ⟨rfl, hb2⟩)
        go_ret
        exact ⟨(k : Int), rfl, by rw [hd]; exact decide_eq_true (by omega), HB.out.trans (hb2.mono hwz)⟩
      | false =>
        rw [hq] at HN hcall
        clear hsub hq
        go_wp2_with (go_at_call 77; refine hcall.out.mono ?_; rintro e w2 ⟨rfl, hb2⟩)
        have h2 := h1.all hb2 (Nat.le_trans hB hwz)
        have HB2 := Lib.hid (HB.out.trans (hb2.mono hwz))
        go_roundw
        case rel => exact ⟨k + 1, by omega, by go_num, HN, h2, HB2⟩
        case measure => simp [intOf]; omega
    · obtain rfl : k = n := by omega
      have hall : (List.range k).any p = false := by exact HK.out
      go_wp2
      go_ret
      exact ⟨-1, rfl, by rw [hall]; rfl, HB.out⟩
set_option maxRecDepth 100000 in
set_option maxHeartbeats 1000000 in
theorem containsC_any (A : Option Addr) (n c B q0 : Nat) (xs : List ChR) (w : World) (h : RdF chartsF w B A n c xs) (hB : B ≤ w.heap.size) (p : Nat → Bool)
    (hp : Hid (∀ (W : World) (j : Nat) (a : ChR), xs[j]? = some a → Below w.heap.size w W → Calls Try.prog 77 #[.agg #[.int .i64 a.W, .int .i64 a.H, .slice a.A a.n a.c], .pointer (some ⟨q0, 0, none⟩)] W (Out W (.bool (p j))))) (d : Bool) (hd : (List.range n).any p = d) :
    Calls Try.prog 79 #[.slice A n c, .func (.func 77) #[] #[.pointer (some ⟨q0, 0, none⟩)]] w (Out w (.bool d)) := by
  go_enter Try.func79, Try.ntmps79
  go_wp2_with (go_at_call 99; refine (indexC_any A n c B q0 xs w h hB p hp).mono ?_; rintro e w2 ⟨r, rfl, hr, hb2⟩)
  go_ret
  exact ⟨ret_bool (by rw [← hd, ← hr]), hb2⟩
end Go.Proofs.Ytpmhnklmhfadlaa
namespace Go.Proofs.Ytpmhnklmhfadlaa
open Go.RowKit

set_option maxRecDepth 100000 in
set_option maxHeartbeats 2000000 in
theorem isSameChart_eq (q r : Pic) (b off c B b' off' c' B' : Nat) (w : World) (hR : Rd w B (some ⟨b, off, none⟩) q.xs.length c q.xs) (hR' : Rd w B' (some ⟨b', off', none⟩) r.xs.length c' r.xs) (hB : B ≤ w.heap.size) (hB' : B' ≤ w.heap.size)
    (hq : q.Ok) (hr : r.Ok) (d : Bool) (hd : eqPic q r = d) :
    Calls Try.prog 78 #[chartV q.m q.k (.slice (some ⟨b, off, none⟩) q.xs.length c), chartV r.m r.k (.slice (some ⟨b', off', none⟩) r.xs.length c')] w (Out w (.bool d)) := by
  obtain ⟨m, k, xs⟩ := q
  obtain ⟨m', k', ys⟩ := r
  simp only at hR hR' ⊢
  have hb0 := Lib.hid (((Below.refl w.heap.size w).alloc (Nat.le_refl _) (.cells #[.int .i64 m, .int .i64 k, .slice (some ⟨b, off, none⟩) xs.length c] 26)).alloc (by simp) (.cells #[.int .i64 m', .int .i64 k', .slice (some ⟨b', off', none⟩) ys.length c'] 26))
  have R0 := (hR.alloc hB (.cells #[.int .i64 m, .int .i64 k, .slice (some ⟨b, off, none⟩) xs.length c] 26)).alloc (by simp; omega) (.cells #[.int .i64 m', .int .i64 k', .slice (some ⟨b', off', none⟩) ys.length c'] 26)
  have S0 := (hR'.alloc hB' (.cells #[.int .i64 m, .int .i64 k, .slice (some ⟨b, off, none⟩) xs.length c] 26)).alloc (by simp; omega) (.cells #[.int .i64 m', .int .i64 k', .slice (some ⟨b', off', none⟩) ys.length c'] 26)
  have hl1 : 1 ≤ xs.length := hq.len.2
  have hl2 : 1 ≤ ys.length := hr.len.2
  have hzz : w.heap.size ≤ ((w.alloc (.cells #[.int .i64 m, .int .i64 k, .slice (some ⟨b, off, none⟩) xs.length c] 26)).alloc (.cells #[.int .i64 m', .int .i64 k', .slice (some ⟨b', off', none⟩) ys.length c'] 26)).heap.size := by simp; omega
  clear hR hR'
  by_cases hm : m' = m
  · subst hm
    have HE := Lib.hid (show decide (xs = ys) = d by
      rw [← hd]
      unfold eqPic
      rw [decide_eq_decide]
      refine ⟨fun e => ⟨rfl, ?_, e.symm⟩, fun e => e.2.2.symm⟩
      have h1 : xs.length = m' * k := hq.2.2.2.2
      have h2 : ys.length = m' * k' := hr.2.2.2.2
      rw [e, h2] at h1
      exact Nat.eq_of_mul_eq_mul_left hr.1 h1)
    clear hd hq hr
    go_enter Try.func78, Try.ntmps78
    go_wp2_with (go_at_call 61; (with_reducible refine (equal_eq b off _ c b' off' _ c' B B' xs ys _ R0 S0 hl1 hl2 d HE.out).mono ?_); rintro e w2 ⟨rfl, hb2⟩)
    go_ret
    exact ⟨rfl, hb0.out.trans (hb2.mono hzz)⟩
  · have HE := Lib.hid (show d = false by
      rw [← hd]
      unfold eqPic
      rw [decide_eq_false_iff_not]
      exact fun e => hm e.1)
    have hmi : ¬ ((m : Int) = (m' : Int)) := by omega
    clear hd hq hr
    go_enter Try.func78, Try.ntmps78
    go_wp2
    go_ret
    exact ⟨ret_bool (by rw [HE.out]), hb0.out⟩
set_option maxRecDepth 100000 in
set_option maxHeartbeats 1000000 in
/-- The closure of waysOf: its captured chart lies in a box. -/
theorem isWay_eq (q r : Pic) (A : Option Addr) (c B q0 : Nat) (A' : Option Addr) (c' B' : Nat) (w : World) (hR : Rd w B A q.xs.length c q.xs) (hR' : Rd w B' A' r.xs.length c' r.xs) (hB : B ≤ w.heap.size) (hB' : B' ≤ w.heap.size)
    (hx : Blk w q0 26 #[.int .i64 r.m, .int .i64 r.k, .slice A' r.xs.length c']) (hq : q.Ok) (hr : r.Ok) :
    Calls Try.prog 77 #[.agg #[.int .i64 q.m, .int .i64 q.k, .slice A q.xs.length c], .pointer (some ⟨q0, 0, none⟩)] w (Out w (.bool (eqPic q r))) := by
  obtain ⟨b, off, rfl, _, _⟩ := hR.cells (by have := hq.len.2; omega)
  obtain ⟨b', off', rfl, _, _⟩ := hR'.cells (by have := hr.len.2; omega)
  have hb0 := Lib.hid ((Below.refl w.heap.size w).alloc (Nat.le_refl _) (.cells #[.int .i64 q.m, .int .i64 q.k, .slice (some ⟨b, off, none⟩) q.xs.length c] 26))
  have R0 := hR.alloc hB (.cells #[.int .i64 q.m, .int .i64 q.k, .slice (some ⟨b, off, none⟩) q.xs.length c] 26)
  have S0 := hR'.alloc hB' (.cells #[.int .i64 q.m, .int .i64 q.k, .slice (some ⟨b, off, none⟩) q.xs.length c] 26)
  have e0 := hx.cell 0
  have e1 := hx.cell 1
  have e2 := hx.cell 2
  have hzx := hx.lt
  have h1 : B ≤ (w.alloc (.cells #[.int .i64 q.m, .int .i64 q.k, .slice (some ⟨b, off, none⟩) q.xs.length c] 26)).heap.size := by simp; omega
  have h2 : B' ≤ (w.alloc (.cells #[.int .i64 q.m, .int .i64 q.k, .slice (some ⟨b, off, none⟩) q.xs.length c] 26)).heap.size := by simp; omega
  clear hR hR' hx
  go_enter Try.func77, Try.ntmps77
  go_wp2_with (go_at_call 78; (with_reducible refine (isSameChart_eq q r b off c B b' off' c' B' _ R0 S0 h1 h2 hq hr _ rfl).mono ?_); rintro e w2 ⟨rfl, hb2⟩)
  go_ret
  exact ⟨rfl, hb0.out.trans (hb2.mono (by simp))⟩
def OwnWays (w : World) (ps : List Pic) (e : Ending) (w' : World) : Prop :=
  ∃ A c hs, e = .returned (.slice A hs.length c) ∧ OwnF chartsF w' w.heap.size (.slice A hs.length c) hs ∧ Hid (SeenH w' w.heap.size hs ps) ∧ Below w.heap.size w w'
theorem SeenH.at {w : World} {lo j : Nat} {hs : List ChR} {ps : List Pic} {a : ChR} (h : SeenH w lo hs ps) (ha : hs[j]? = some a) : ∃ q, ps[j]? = some q ∧ a = ⟨(q.m : Int), (q.k : Int), a.A, q.xs.length, a.c⟩ ∧ Own w lo (.slice a.A q.xs.length a.c) q.xs := by
  have hl := h.1
  have hj := (List.getElem?_eq_some_iff.1 ha).1
  have hq : ps[j]? = some (ps[j]'(by omega)) := List.getElem?_eq_getElem (by omega)
  obtain ⟨h1, h2, h3, h4⟩ := h.2 j a _ ha hq
  refine ⟨_, hq, ?_, h3 ▸ h4⟩
  obtain ⟨W, H, A, n, c⟩ := a
  simp only at h1 h2 h3
  rw [h1, h2, h3]
theorem any_range {ps : List Pic} {n : Nat} (r : Pic) (h : ps.length = n) : (List.range n).any (fun j => match ps[j]? with | some q => eqPic q r | none => false) = ps.any fun q => eqPic q r := by
  subst h
  rw [Bool.eq_iff_iff, List.any_eq_true, List.any_eq_true]
  constructor
  · rintro ⟨j, hj, e⟩
    have hj := List.mem_range.1 hj
    rw [List.getElem?_eq_getElem hj] at e
    exact ⟨_, List.getElem_mem hj, e⟩
  · rintro ⟨q, hq, e⟩
    obtain ⟨j, hj, rfl⟩ := List.getElem_of_mem hq
    refine ⟨j, List.mem_range.2 hj, ?_⟩
    rw [List.getElem?_eq_getElem hj]
    exact e
set_option maxRecDepth 100000 in
set_option maxHeartbeats 8000000 in
theorem waysOf_any (p : Pic) (b off cc B : Nat) (w : World) (hR : Rd w B (some ⟨b, off, none⟩) p.xs.length cc p.xs) (hB : B ≤ w.heap.size) (hpok : p.Ok) :
    Calls Try.prog 50 #[chartV p.m p.k (.slice (some ⟨b, off, none⟩) p.xs.length cc)] w (OwnWays w (seenP p 8)) := by
  obtain ⟨m, kk, xs⟩ := p
  simp only at hR ⊢
  have hb0 := Lib.hid ((Below.refl w.heap.size w).alloc (Nat.le_refl _) (.cells #[.int .i64 m, .int .i64 kk, .slice (some ⟨b, off, none⟩) xs.length cc] 26))
  have R0 := hR.alloc hB (.cells #[.int .i64 m, .int .i64 kk, .slice (some ⟨b, off, none⟩) xs.length cc] 26)
  have x0 := Blk.new w #[.int .i64 m, .int .i64 kk, .slice (some ⟨b, off, none⟩) xs.length cc] 26
  have o0 : OwnF chartsF (w.alloc (.cells #[.int .i64 m, .int .i64 kk, .slice (some ⟨b, off, none⟩) xs.length cc] 26)) (w.heap.size + 1) (.slice none 0 0) [] := OwnF.nil _ _ _
  have s0 := Lib.hid (SeenH.nil (w.alloc (.cells #[.int .i64 m, .int .i64 kk, .slice (some ⟨b, off, none⟩) xs.length cc] 26)) w.heap.size)
  clear hR
  go_enter Try.func50, Try.ntmps50
  go_wp2
  go_loopw [3, 7] (fun s3 s7 wr => ∃ (s : Nat) (A : Option Addr) (c : Nat) (hs : List ChR), s ≤ 8 ∧ s7 = .int .i64 s ∧ s3 = .slice A hs.length c ∧ Hid (SeenH wr w.heap.size hs (seenP ⟨m, kk, xs⟩ s)) ∧ OwnF chartsF wr (w.heap.size + 1) (.slice A hs.length c) hs ∧ Blk wr w.heap.size 26 #[.int .i64 m, .int .i64 kk, .slice (some ⟨b, off, none⟩) xs.length cc] ∧ Rd wr B (some ⟨b, off, none⟩) xs.length cc xs ∧ Hid (Below w.heap.size w wr)) (fun _ s7 _ => 8 - (intOf s7).toNat)
  case atStart => exact ⟨0, none, 0, [], by omega, rfl, rfl, s0, o0, x0, R0, hb0⟩
  case round =>
    clear s0 o0 x0 R0 hb0
    obtain ⟨s, A, c, hs, hs8, rfl, rfl, hse, ho, x1, R1, HB⟩ := hrel
    by_cases hlt : s < 8
    · have hlt' : (s : Int) < 8 := by omega
      have ex0 := x1.cell 0
      have ex1 := x1.cell 1
      have ex2 := x1.cell 2
      have hwz := HB.out.size
      have hxl := x1.lt
      go_wp2_with fail
      refine (movedBy_any m kk b off cc B s xs wr R1 (Nat.le_trans hB hwz) hpok (by omega)).mono ?_
      rintro e w3 ⟨A3, c3, rfl, own3, hb3⟩
      have x3 := x1.all hb3
      have R3 := R1.all hb3 (Nat.le_trans hB hwz)
      have HB3 := Lib.hid (HB.out.trans (hb3.mono hwz))
      have o3 := ho.all hb3
      have s3 := Lib.hid (hse.out.all hb3)
      have hz3 : wr.heap.size ≤ w3.heap.size := hb3.size
      have hlo3 := own3.bd
      replace own3 := own3.mono hwz
      clear x1 R1 HB ho hse hb3 ex0 ex1 ex2
      replace own3 : Own w3 w.heap.size (.slice A3 ((⟨m, kk, xs⟩ : Pic).move s).xs.length c3) ((⟨m, kk, xs⟩ : Pic).move s).xs := own3
      have x4 := x3.alloc (.cells #[.int .i64 (((⟨m, kk, xs⟩ : Pic).move s).m : Int), .int .i64 (((⟨m, kk, xs⟩ : Pic).move s).k : Int), .slice A3 ((⟨m, kk, xs⟩ : Pic).move s).xs.length c3] 26)
      have R4 := R3.alloc (by omega) (.cells #[.int .i64 (((⟨m, kk, xs⟩ : Pic).move s).m : Int), .int .i64 (((⟨m, kk, xs⟩ : Pic).move s).k : Int), .slice A3 ((⟨m, kk, xs⟩ : Pic).move s).xs.length c3] 26)
      have HB4 := Lib.hid (HB3.out.alloc (by omega) (.cells #[.int .i64 (((⟨m, kk, xs⟩ : Pic).move s).m : Int), .int .i64 (((⟨m, kk, xs⟩ : Pic).move s).k : Int), .slice A3 ((⟨m, kk, xs⟩ : Pic).move s).xs.length c3] 26))
      have o4 := o3.alloc (.cells #[.int .i64 (((⟨m, kk, xs⟩ : Pic).move s).m : Int), .int .i64 (((⟨m, kk, xs⟩ : Pic).move s).k : Int), .slice A3 ((⟨m, kk, xs⟩ : Pic).move s).xs.length c3] 26)
      have s4 := Lib.hid (s3.out.all ((Below.refl w3.heap.size w3).alloc (Nat.le_refl _) (.cells #[.int .i64 (((⟨m, kk, xs⟩ : Pic).move s).m : Int), .int .i64 (((⟨m, kk, xs⟩ : Pic).move s).k : Int), .slice A3 ((⟨m, kk, xs⟩ : Pic).move s).xs.length c3] 26)))
      have own4 := own3.alloc (.cells #[.int .i64 (((⟨m, kk, xs⟩ : Pic).move s).m : Int), .int .i64 (((⟨m, kk, xs⟩ : Pic).move s).k : Int), .slice A3 ((⟨m, kk, xs⟩ : Pic).move s).xs.length c3] 26)
      have y4 := Blk.new w3 #[.int .i64 (((⟨m, kk, xs⟩ : Pic).move s).m : Int), .int .i64 (((⟨m, kk, xs⟩ : Pic).move s).k : Int), .slice A3 ((⟨m, kk, xs⟩ : Pic).move s).xs.length c3] 26
      have hmok := hpok.move s
      have hsl := Lib.hid (show hs.length = (seenP ⟨m, kk, xs⟩ s).length from s3.out.1)
      obtain ⟨d, HD⟩ : ∃ d, Hid (((seenP ⟨m, kk, xs⟩ s).any fun q => eqPic q ((⟨m, kk, xs⟩ : Pic).move s)) = d) := ⟨_, rfl⟩
      have hp := Lib.hid (show ∀ (W : World) (j : Nat) (a : ChR), hs[j]? = some a → Below (w3.alloc (.cells #[.int .i64 (((⟨m, kk, xs⟩ : Pic).move s).m : Int), .int .i64 (((⟨m, kk, xs⟩ : Pic).move s).k : Int), .slice A3 ((⟨m, kk, xs⟩ : Pic).move s).xs.length c3] 26)).heap.size (w3.alloc (.cells #[.int .i64 (((⟨m, kk, xs⟩ : Pic).move s).m : Int), .int .i64 (((⟨m, kk, xs⟩ : Pic).move s).k : Int), .slice A3 ((⟨m, kk, xs⟩ : Pic).move s).xs.length c3] 26)) W → Calls Try.prog 77 #[.agg #[.int .i64 a.W, .int .i64 a.H, .slice a.A a.n a.c], .pointer (some ⟨w3.heap.size, 0, none⟩)] W (Out W (.bool ((fun j => match (seenP ⟨m, kk, xs⟩ s)[j]? with | some q => eqPic q ((⟨m, kk, xs⟩ : Pic).move s) | none => false) j))) from fun W j a ha hbW => by
        obtain ⟨q, hq, ea, hoq⟩ := s4.out.at ha
        have hqok : q.Ok := by
          obtain ⟨t, rfl⟩ := seenP_mem (List.mem_of_getElem? hq)
          exact hpok.move t
        rw [ea]
        simp only [hq]
        exact isWay_eq q ((⟨m, kk, xs⟩ : Pic).move s) a.A a.c _ w3.heap.size A3 c3 _ W (hoq.all hbW).rd (own4.all hbW).rd (Nat.le_refl _) (Nat.le_refl _) (y4.all hbW) hqok hmok)
      clear x3 R3 HB3 o3 s3 own3
      go_wp2_with fail
      refine (containsC_any A hs.length c _ w3.heap.size hs _ o4.rd (Nat.le_refl _) (fun j => match (seenP ⟨m, kk, xs⟩ s)[j]? with | some q => eqPic q ((⟨m, kk, xs⟩ : Pic).move s) | none => false) hp d ((any_range ((⟨m, kk, xs⟩ : Pic).move s) hsl.out.symm).trans HD.out)).mono ?_
      rintro e w6 ⟨rfl, hb6⟩
      have x6 := x4.all hb6
      have R6 := R4.all hb6 (by simp; omega)
      have HB6 := Lib.hid (HB4.out.trans (hb6.mono (by simp; omega)))
      have o6 := o4.all hb6
      have s6 := Lib.hid (s4.out.all hb6)
      have own6 := own4.all hb6
      have y6 := y4.all hb6
      have hz6 : w3.heap.size < w6.heap.size := y6.lt
      have hzw : w.heap.size ≤ w6.heap.size := HB6.out.size
      clear x4 R4 HB4 o4 s4 own4 y4 hp hb6
      cases d with
      | true =>
        have HN := Lib.hid (show SeenH w6 w.heap.size hs (seenP ⟨m, kk, xs⟩ (s + 1)) by rw [seenP_yes HD.out]; exact s6.out)
        clear s6 y6 own6
        go_wp2
        go_roundw
        case rel => exact ⟨s + 1, A, c, hs, by omega, by go_num, rfl, HN, o6, x6, R6, HB6⟩
        case measure => simp [intOf]; omega
      | false =>
        have y60 := y6.cell 0
        have y61 := y6.cell 1
        have y62 := y6.cell 2
        have hr := RdF.lit (F := chartsF) (w := w6) (cs := #[.int .i64 (((⟨m, kk, xs⟩ : Pic).move s).m : Int), .int .i64 (((⟨m, kk, xs⟩ : Pic).move s).k : Int), .slice A3 ((⟨m, kk, xs⟩ : Pic).move s).xs.length c3]) (a := ⟨(((⟨m, kk, xs⟩ : Pic).move s).m : Int), (((⟨m, kk, xs⟩ : Pic).move s).k : Int), A3, ((⟨m, kk, xs⟩ : Pic).move s).xs.length, c3⟩) rfl trivial
        have oA := o6.alloc (.cells #[.int .i64 (((⟨m, kk, xs⟩ : Pic).move s).m : Int), .int .i64 (((⟨m, kk, xs⟩ : Pic).move s).k : Int), .slice A3 ((⟨m, kk, xs⟩ : Pic).move s).xs.length c3] chartsF.t)
        have xA := x6.alloc (.cells #[.int .i64 (((⟨m, kk, xs⟩ : Pic).move s).m : Int), .int .i64 (((⟨m, kk, xs⟩ : Pic).move s).k : Int), .slice A3 ((⟨m, kk, xs⟩ : Pic).move s).xs.length c3] chartsF.t)
        have RA := R6.alloc (by omega) (.cells #[.int .i64 (((⟨m, kk, xs⟩ : Pic).move s).m : Int), .int .i64 (((⟨m, kk, xs⟩ : Pic).move s).k : Int), .slice A3 ((⟨m, kk, xs⟩ : Pic).move s).xs.length c3] chartsF.t)
        have ownA := own6.alloc (.cells #[.int .i64 (((⟨m, kk, xs⟩ : Pic).move s).m : Int), .int .i64 (((⟨m, kk, xs⟩ : Pic).move s).k : Int), .slice A3 ((⟨m, kk, xs⟩ : Pic).move s).xs.length c3] chartsF.t)
        have sA := Lib.hid (s6.out.all ((Below.refl w6.heap.size w6).alloc (Nat.le_refl _) (.cells #[.int .i64 (((⟨m, kk, xs⟩ : Pic).move s).m : Int), .int .i64 (((⟨m, kk, xs⟩ : Pic).move s).k : Int), .slice A3 ((⟨m, kk, xs⟩ : Pic).move s).xs.length c3] chartsF.t)))
        have HBA := Lib.hid (HB6.out.alloc hzw (.cells #[.int .i64 (((⟨m, kk, xs⟩ : Pic).move s).m : Int), .int .i64 (((⟨m, kk, xs⟩ : Pic).move s).k : Int), .slice A3 ((⟨m, kk, xs⟩ : Pic).move s).xs.length c3] chartsF.t))
        have hz10 : w.heap.size + 1 ≤ (w6.alloc (.cells #[.int .i64 (((⟨m, kk, xs⟩ : Pic).move s).m : Int), .int .i64 (((⟨m, kk, xs⟩ : Pic).move s).k : Int), .slice A3 ((⟨m, kk, xs⟩ : Pic).move s).xs.length c3] chartsF.t)).heap.size := by simp; omega
        have hl8 : hs.length ≤ 8 := by rw [hsl.out]; exact Nat.le_trans seenP_len hs8
        clear o6 x6 R6 own6 s6 HB6 y6
        go_wp2_with (refine wpList_appendF chartsF rfl _ (.tmp 18) (.tmp 20) 51 (.agg #[.int .i64 0, .int .i64 0, .slice none 0 0]) 40 rfl Try.underlying51 info_Chart6 rfl (by decide) (by decide) (w.heap.size + 1) _ hs [⟨(((⟨m, kk, xs⟩ : Pic).move s).m : Int), (((⟨m, kk, xs⟩ : Pic).move s).k : Int), A3, ((⟨m, kk, xs⟩ : Pic).move s).xs.length, c3⟩] w6.heap.size 0 1 1 (w6.heap.size + 1) rfl rfl oA hr (by simp; omega) hz10 ?_)
        intro A7 c7 w7 o7 hg7
        have x7 := xA.mark hg7 (fun k hk e => by have := (oA.bd k hk).1; omega)
        have R7 := RA.mark hg7 (fun k hk => by have := (oA.bd k hk).1; omega) (by simp; omega)
        have s7 := Lib.hid (sA.out.mark oA.1 hg7)
        have own7 := ownA.mark hg7 (fun k k' hk hk' e => by
          subst e
          rcases ownA.1.2 with ⟨e1, _⟩ | ⟨g, cap, cur, e1, _, hgc, _⟩
          · rw [e1] at hk'; cases hk'
          · rw [e1] at hk'; cases hk'
            rcases oA.1.2 with ⟨e2, _⟩ | ⟨g2, cap2, cur2, e2, _, hgc2, _⟩
            · rw [e2] at hk; cases hk
            · rw [e2] at hk; cases hk
              rw [hgc] at hgc2
              simp only [Option.some.injEq, Obj.cells.injEq] at hgc2
              exact absurd hgc2.2.1 (by decide))
        have HB7 := Lib.hid (HBA.out.grown hg7 (by omega) (fun k hk => by have := (oA.bd k hk).1; omega))
        have HN := Lib.hid (show SeenH w7 w.heap.size (hs ++ [⟨(((⟨m, kk, xs⟩ : Pic).move s).m : Int), (((⟨m, kk, xs⟩ : Pic).move s).k : Int), A3, ((⟨m, kk, xs⟩ : Pic).move s).xs.length, c3⟩]) (seenP ⟨m, kk, xs⟩ (s + 1)) by
          rw [seenP_no HD.out]
          exact s7.out.push rfl rfl rfl own7)
        clear oA xA RA ownA sA HBA hr hg7 y60 y61 y62 s7
        go_wp2
        go_roundw
        case rel => exact ⟨s + 1, A7, c7, hs ++ [⟨(((⟨m, kk, xs⟩ : Pic).move s).m : Int), (((⟨m, kk, xs⟩ : Pic).move s).k : Int), A3, ((⟨m, kk, xs⟩ : Pic).move s).xs.length, c3⟩], by omega, by go_num, by rw [List.length_append]; rfl, HN, by rw [List.length_append]; exact o7, x7, R7, HB7⟩
        case measure => simp [intOf]; omega
    · obtain rfl : s = 8 := by omega
      go_wp2
      go_ret
      exact ⟨A, c, hs, rfl, ho.mono (by omega), hse, HB.out⟩
end Go.Proofs.Ytpmhnklmhfadlaa
namespace Go.Proofs.Ytpmhnklmhfadlaa
open Go.RowKit
set_option maxRecDepth 100000

theorem eq_same (p : Pic) (s : Nat) : eqPic (p.move s) p = p.same s := by
  unfold eqPic Pic.same
  rw [Bool.eq_iff_iff, decide_eq_true_eq, decide_eq_true_eq]
  constructor
  · exact fun h => ⟨h.1.symm, h.2.1.symm, h.2.2.symm⟩
  · exact fun h => ⟨h.1.symm, h.2.1.symm, h.2.2.symm⟩
end Go.Proofs.Ytpmhnklmhfadlaa
namespace Go.Proofs.Ytpmhnklmhfadlaa
open Go.RowKit

def hasB (W H : Int) (xs : List Int) (s : Int) : Bool := moveOk W H xs s && (⟨W.toNat, H.toNat, xs⟩ : Pic).same s.toNat
theorem ret2_bb {a a' b b' : Bool} (h : a = a') (h' : b = b') : Ending.returned (.tuple #[.bool a, .bool b]) = .returned (.tuple #[.bool a', .bool b']) := by rw [h, h']
theorem same_len {p : Pic} (h : p.Ok) (s : Nat) : (p.move s).m = p.m → (p.move s).k = p.k → (p.move s).xs.length = p.xs.length := fun e1 e2 => by
  rw [(h.move s).2.2.2.2, e1, e2, h.2.2.2.2]
/-- The symmetries below j that a chart has. -/
def symsTo (p : Pic) (j : Nat) : List Int := ((List.range j).filter fun s => p.same s).map fun s : Nat => (s : Int)
theorem symsTo_yes {p : Pic} {j : Nat} (h : p.same j = true) : symsTo p (j + 1) = symsTo p j ++ [(j : Int)] := by
  simp [symsTo, List.range_succ, h]
theorem symsTo_no {p : Pic} {j : Nat} (h : p.same j = false) : symsTo p (j + 1) = symsTo p j := by
  simp [symsTo, List.range_succ, h]
theorem symsTo_len (p : Pic) (j : Nat) : (symsTo p j).length ≤ j := by
  simp only [symsTo, List.length_map]
  exact Nat.le_trans (List.length_filter_le _ _) (by simp)
def symsX (W H : Int) (xs : List Int) : List Int := if goodB W H xs = true then symsTo ⟨W.toNat, H.toNat, xs⟩ 8 else []
theorem symsX_len (W H : Int) (xs : List Int) : (symsX W H xs).length ≤ 1048576 := by
  unfold symsX
  split
  · have := symsTo_len ⟨W.toNat, H.toNat, xs⟩ 8
    omega
  · simp
end Go.Proofs.Ytpmhnklmhfadlaa
namespace Go.Proofs.Ytpmhnklmhfadlaa
open Go.RowKit

def sumP (m kk : Nat) (xs : List Int) (ps : List Pic) (i : Nat) : Nat := ((ps.take i).map fun q => (placesL m kk xs q.m q.k q.xs).length).sum
theorem sumP_succ {m kk i : Nat} {xs : List Int} {ps : List Pic} {q : Pic} (h : ps[i]? = some q) : sumP m kk xs ps (i + 1) = sumP m kk xs ps i + (placesL m kk xs q.m q.k q.xs).length := by
  obtain ⟨hi, rfl⟩ := List.getElem?_eq_some_iff.1 h
  unfold sumP
  rw [List.take_succ_eq_append_getElem hi, List.map_append, List.sum_append_nat]
  simp
theorem sumP_le {m kk : Nat} {xs : List Int} {ps : List Pic} (m8 : m ≤ 8) (k8 : kk ≤ 8) (h : ∀ q ∈ ps, q.Ok) : ∀ i, sumP m kk xs ps i ≤ 64 * i
  | 0 => by simp [sumP]
  | i + 1 => by
    have ih := sumP_le (xs := xs) m8 k8 h i
    by_cases hi : i < ps.length
    · have hq := h _ (List.getElem_mem hi)
      have := placesL_len (xs := xs) (ys := (ps[i]'hi).xs) m8 k8 hq.1 hq.2.2.1
      rw [sumP_succ (List.getElem?_eq_getElem hi)]
      omega
    · have e1 : ps.take (i + 1) = ps.take i := by rw [List.take_of_length_le (show ps.length ≤ i + 1 by omega), List.take_of_length_le (show ps.length ≤ i by omega)]
      unfold sumP at ih ⊢
      rw [e1]
      omega
set_option maxRecDepth 100000 in
set_option maxHeartbeats 8000000 in
theorem implAnyWayPlaces_any (W H : Int) (A : Option Addr) (n c B : Nat) (xs : List Int) (pW pH : Int) (A' : Option Addr) (n' c' B' : Nat) (ys : List Int) (w : World) (hR : Rd w B A n c xs) (hR' : Rd w B' A' n' c' ys) (hB : B ≤ w.heap.size) (hB' : B' ≤ w.heap.size) :
    Calls Try.prog 20 #[chartV W H (.slice A n c), chartV pW pH (.slice A' n' c')] w (Out w (.tuple #[.int .i64 (anyN W H xs pW pH ys), .bool (twoOk W H xs pW pH ys)])) := by
  have hb0 := Lib.hid (((Below.refl w.heap.size w).alloc (Nat.le_refl _) (.cells #[.int .i64 W, .int .i64 H, .slice A n c] 26)).alloc (by simp) (.cells #[.int .i64 pW, .int .i64 pH, .slice A' n' c'] 26))
  have h1 := Lib.hid ((hR.alloc hB (.cells #[.int .i64 W, .int .i64 H, .slice A n c] 26)).alloc (by simp; omega) (.cells #[.int .i64 pW, .int .i64 pH, .slice A' n' c'] 26))
  have h2 := Lib.hid ((hR'.alloc hB' (.cells #[.int .i64 W, .int .i64 H, .slice A n c] 26)).alloc (by simp; omega) (.cells #[.int .i64 pW, .int .i64 pH, .slice A' n' c'] 26))
  have x0 := (Blk.new w #[.int .i64 W, .int .i64 H, .slice A n c] 26).alloc (.cells #[.int .i64 pW, .int .i64 pH, .slice A' n' c'] 26)
  have p0 := (Blk.new (w.alloc (.cells #[.int .i64 W, .int .i64 H, .slice A n c] 26)) #[.int .i64 pW, .int .i64 pH, .slice A' n' c'] 26).at_ (q := w.heap.size + 1) (by simp)
  by_cases g1 : goodB W H xs = true
  rotate_left
  · have hno := not_false g1
    have H' := Lib.hid (any_no6 (W := W) (H := H) (xs := xs) (pW := pW) (pH := pH) (ys := ys) (.inl hno))
    go_enter Try.func20, Try.ntmps20
    go_wp2_with fail
    refine (implIsChart_any W H A n c B xs _ h1.out (by first | omega | (simp; done) | (simp; omega))).mono ?_
    rintro e w1 ⟨rfl, hb⟩
    have HB := Lib.hid (hb0.out.trans (hb.mono (by simp; omega)))
    rw [hno]
    clear hb x0 p0
    go_wp2
    go_ret2
    exact ⟨ret_ib H'.out.1.symm H'.out.2.symm, HB.out⟩
  by_cases g2 : goodB pW pH ys = true
  rotate_left
  · have hno := not_false g2
    have H' := Lib.hid (any_no6 (W := W) (H := H) (xs := xs) (pW := pW) (pH := pH) (ys := ys) (.inr hno))
    go_enter Try.func20, Try.ntmps20
    go_wp2_with fail
    refine (implIsChart_any W H A n c B xs _ h1.out (by first | omega | (simp; done) | (simp; omega))).mono ?_
    rintro e w1 ⟨rfl, hb⟩
    have HB := Lib.hid (hb0.out.trans (hb.mono (by simp; omega)))
    have p1 := p0.all hb
    have R2 := Lib.hid (h2.out.all hb (by simp; omega))
    have hz1 : w.heap.size ≤ w1.heap.size := HB.out.size
    have hz2 : B' ≤ w1.heap.size := Nat.le_trans hB' hz1
    have e0 := p1.cell 0
    have e1 := p1.cell 1
    have e2 := p1.cell 2
    rw [g1]
    clear hb x0 p0
    go_wp2_with fail
    refine (implIsChart_any pW pH A' n' c' B' ys _ R2.out (by first | omega | (simp; done) | (simp; omega))).mono ?_
    rintro e w2 ⟨rfl, hb⟩
    have HB2 := Lib.hid (HB.out.trans (hb.mono hz1))
    clear HB hb
    have HB := HB2
    rw [hno]
    go_wp2
    go_ret2
    exact ⟨ret_ib H'.out.1.symm H'.out.2.symm, HB.out⟩
  have HV := Lib.hid (any_yes6 g1 g2)
  obtain ⟨m, kk, rfl, rfl, m1, m8, k1, k8, hl, h64, hl1, hcx⟩ := good_nat g1
  obtain ⟨pm, pk, rfl, rfl, pm1, pm8, pk1, pk8, hl', h64', hl1', hcy⟩ := good_nat g2
  simp only [Int.toNat_natCast] at *
  obtain rfl := hR.len
  obtain rfl := hR'.len
  obtain ⟨b, off, rfl, _, _⟩ := hR.cells (by omega)
  obtain ⟨b', off', rfl, _, _⟩ := hR'.cells (by omega)
  clear hR hR'
  go_enter Try.func20, Try.ntmps20
  go_wp2_with fail
  refine (implIsChart_any m kk _ _ c B xs _ h1.out (by simp; omega)).mono ?_
  rintro e w1 ⟨rfl, hb⟩
  have x1 := x0.all hb
  have p1 := p0.all hb
  have RA1 := Lib.hid (h1.out.all hb (by simp; omega))
  have RB1 := Lib.hid (h2.out.all hb (by simp; omega))
  have HB1 := Lib.hid (hb0.out.trans (hb.mono (by simp; omega)))
  have hz1 : w.heap.size ≤ w1.heap.size := HB1.out.size
  have e0 := p1.cell 0
  have e1 := p1.cell 1
  have e2 := p1.cell 2
  rw [g1]
  clear hb x0 p0 h1 h2 hb0 g1
  go_wp2_with fail
  refine (implIsChart_any pm pk _ _ c' B' ys _ RB1.out (Nat.le_trans hB' hz1)).mono ?_
  rintro e w2 ⟨rfl, hb⟩
  have x2 := x1.all hb
  have p2 := p1.all hb
  have RA := Lib.hid (RA1.out.all hb (Nat.le_trans hB hz1))
  have RB := Lib.hid (RB1.out.all hb (Nat.le_trans hB' hz1))
  have HB := Lib.hid (HB1.out.trans (hb.mono hz1))
  have hz2 : w.heap.size ≤ w2.heap.size := HB.out.size
  rw [g2]
  clear hb x1 p1 RA1 RB1 HB1 hz1 e0 e1 e2 g2
  have ep0 := p2.cell 0
  have ep1 := p2.cell 1
  have ep2 := p2.cell 2
  have hpok : (⟨pm, pk, ys⟩ : Pic).Ok := pic_ok pm1 pm8 pk1 pk8 hl'.out
  go_wp2_with fail
  refine (waysOf_any ⟨pm, pk, ys⟩ b' off' c' B' _ RB.out (Nat.le_trans hB' hz2) hpok).mono ?_
  rintro e w3 ⟨A3, c3, hs, rfl, ho, hse, hb3⟩
  have x3 := x2.all hb3
  have RA3 := RA.out.all hb3 (Nat.le_trans hB hz2)
  have HB3 := Lib.hid (HB.out.trans (hb3.mono hz2))
  replace ho := ho.mono hz2
  have hse3 : Hid (SeenH w3 w.heap.size hs (seenP ⟨pm, pk, ys⟩ 8)) := Lib.hid ⟨hse.out.1, fun j x q hx hq => by obtain ⟨a, b, c, d⟩ := hse.out.2 j x q hx hq; exact ⟨a, b, c, d.mono hz2⟩⟩
  have hok := Lib.hid (show ∀ q ∈ seenP ⟨pm, pk, ys⟩ 8, q.Ok from fun q hq => by
    obtain ⟨t, rfl⟩ := seenP_mem hq
    exact hpok.move t)
  have hl8 : hs.length ≤ 8 := by rw [hse.out.1]; exact seenP_len
  have hll := Lib.hid hse.out.1
  have HSUM := Lib.hid (show anyTo m kk xs ⟨pm, pk, ys⟩ 8 = sumP m kk xs (seenP ⟨pm, pk, ys⟩ 8) hs.length by
    unfold anyTo sumP
    rw [List.take_of_length_le (by rw [hll.out]; exact Nat.le_refl _)])
  have hse0 := hse3
  clear hb3 x2 p2 RA RB HB hse ep0 ep1 ep2 hse3
  generalize seenP ⟨pm, pk, ys⟩ 8 = ps at *
  go_wp2
  go_loopw [6, 20] (fun s6 s20 wr => ∃ (i : Nat), i ≤ hs.length ∧ s20 = .int .i64 i ∧ s6 = .int .i64 (sumP m kk xs ps i : Int) ∧ Hid (SeenH wr w.heap.size hs ps) ∧ OwnF chartsF wr w.heap.size (.slice A3 hs.length c3) hs ∧ Blk wr w.heap.size 26 #[.int .i64 m, .int .i64 kk, .slice (some ⟨b, off, none⟩) xs.length c] ∧ Rd wr B (some ⟨b, off, none⟩) xs.length c xs ∧ Hid (Below w.heap.size w wr)) (fun _ s20 _ => hs.length - (intOf s20).toNat)
  case atStart => exact ⟨0, Nat.zero_le _, rfl, rfl, hse0, ho, x3, RA3, HB3⟩
  case round =>
    clear hse0 ho x3 RA3 HB3
    obtain ⟨i, hi, rfl, rfl, hse, ho, x3, RA3, HB3⟩ := hrel
    by_cases hlt : i < hs.length
    · obtain ⟨bh, oh, a, rfl, hbh, HX, e0, e1, e2⟩ := Ch_at ho.rd hlt
      obtain ⟨q, hq, ea, hoq⟩ := hse.out.at HX.out
      have hqok := hok.out q (List.mem_of_getElem? hq)
      have hsucc := Lib.hid (sumP_succ (m := m) (kk := kk) (xs := xs) hq)
      obtain ⟨qm, qk, qx⟩ := q
      simp only at ea hoq hsucc
      rw [ea] at e0 e1 e2
      simp only at e0 e1 e2
      obtain ⟨gq, egq, _, _⟩ := hoq.some_ (by have := hqok.len.2; exact this)
      rw [egq] at hoq e2
      obtain ⟨cq, hcq⟩ : ∃ cq, cq = a.c := ⟨_, rfl⟩
      rw [← hcq] at hoq e2
      clear HX ea egq hcq hq
      have hwz := HB3.out.size
      have ex0 := x3.cell 0
      have ex1 := x3.cell 1
      have ex2 := x3.cell 2
      have hxl := x3.lt
      have hq1 : 1 ≤ qm := hqok.1
      have hq2 : qm ≤ 8 := hqok.2.1
      have hq3 : 1 ≤ qk := hqok.2.2.1
      have hq4 : qk ≤ 8 := hqok.2.2.2.1
      have hq5 := Lib.hid (show qx.length = qm * qk from hqok.2.2.2.2)
      have hsum := sumP_le (xs := xs) m8 k8 hok.out i
      have hpl := placesL_len (xs := xs) (ys := qx) m8 k8 hq1 hq3
      clear hqok
      go_wp2_with fail
      have x4 := x3.alloc (.cells #[.int .i64 (qm : Int), .int .i64 (qk : Int), .slice (some ⟨gq, 0, none⟩) qx.length cq] 26)
      have R4 := RA3.alloc (Nat.le_trans hB hwz) (.cells #[.int .i64 (qm : Int), .int .i64 (qk : Int), .slice (some ⟨gq, 0, none⟩) qx.length cq] 26)
      have o4 := ho.alloc (.cells #[.int .i64 (qm : Int), .int .i64 (qk : Int), .slice (some ⟨gq, 0, none⟩) qx.length cq] 26)
      have q4 := hoq.alloc (.cells #[.int .i64 (qm : Int), .int .i64 (qk : Int), .slice (some ⟨gq, 0, none⟩) qx.length cq] 26)
      have s4 := Lib.hid (hse.out.all ((Below.refl wr.heap.size wr).alloc (Nat.le_refl _) (.cells #[.int .i64 (qm : Int), .int .i64 (qk : Int), .slice (some ⟨gq, 0, none⟩) qx.length cq] 26)))
      have HB4 := Lib.hid (HB3.out.alloc hwz (.cells #[.int .i64 (qm : Int), .int .i64 (qk : Int), .slice (some ⟨gq, 0, none⟩) qx.length cq] 26))
      clear ho hoq hse x3 RA3 HB3
      refine (placesIn_any m kk qm qk b off c B gq 0 cq _ xs qx _ R4 q4.rd (by simp; omega) (Nat.le_refl _) m1 m8 k8 hq1 hq3 hq2 hq4 hl hq5).mono ?_
      rintro e w5 ⟨A5, c5, rfl, _, hb5⟩
      have x5 := x4.all hb5
      have R5 := R4.all hb5 (by simp; omega)
      have o5 := o4.all hb5
      have s5 := Lib.hid (s4.out.all hb5)
      have HB5 := Lib.hid (HB4.out.trans (hb5.mono HB4.out.size))
      have hwrap : IntKind.i64.wrap ((sumP m kk xs ps i : Int) + ((placesL m kk xs qm qk qx).length : Int)) = (sumP m kk xs ps i : Int) + ((placesL m kk xs qm qk qx).length : Int) := IntWalk.i64_in _ (by omega)
      clear x4 R4 o4 s4 q4 HB4 hb5 e0 e1 e2 ex0 ex1 ex2
      go_wp2
      go_roundw
      case rel => exact ⟨i + 1, by omega, by go_num, by rw [hsucc.out]; simp, s5, o5, x5, R5, HB5⟩
      case measure => simp [intOf]; omega
    · obtain rfl : i = hs.length := by omega
      have HE := Lib.hid (show anyN m kk xs pm pk ys = ((sumP m kk xs ps hs.length : Nat) : Int) by rw [HV.out.1, ← HSUM.out]; first | done | simp)
      clear HSUM
      go_wp2
      go_ret2
      exact ⟨ret_ib HE.out.symm HV.out.2.symm, HB3.out⟩
end Go.Proofs.Ytpmhnklmhfadlaa
