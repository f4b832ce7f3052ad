/- The walk of the program's occursAt. Condition: two charts whose sides are sides, a place within. -/
import Derived.Test.YtehhidpmbbabeaaPlaceMath
import Derived.Test.YtehhidpmbbabeaaSame
import Derived.Test.YtehhidpmbbabeaaSide
import Derived.Test.YtehhidpmbbabeaaSymMath
namespace Go.Proofs.Ytehhidpmbbabeaa
open Go.RowKit

/-- A part of a slice, as Go cuts it. -/
theorem Rd.sub {w : World} {B b off n c q k : Nat} {xs : List Int} (h : Rd w B (some ⟨b, off, none⟩) n c xs) (hq : q + k ≤ n) : Rd w B (some ⟨b, off + q, none⟩) k (c - q) ((xs.drop q).take k) := by
  have hl := h.len
  have hc := h.cap
  have hm := h.max
  refine ⟨by rw [List.length_take, List.length_drop]; omega, by omega, by omega, fun hn => ?_, fun x hx => h.fits x (List.mem_of_mem_drop (List.mem_of_mem_take hx)), fun e => by cases e⟩
  obtain ⟨b', off', e, hb, hcell⟩ := h.cells (by omega)
  cases e
  refine ⟨b, off + q, rfl, hb, fun j hj => ?_⟩
  rw [Nat.add_assoc, hcell _ (by omega), List.getD_eq_getElem?_getD, List.getD_eq_getElem?_getD, List.getElem?_take, if_pos hj, List.getElem?_drop]
def segL (m : Nat) (xs : List Int) (r c k : Nat) : List Int := ((rowL m r xs).drop c).take k
theorem Rd.seg {w : World} {B b off cc m kk r c pm : Nat} {xs : List Int} (h : Rd w B (some ⟨b, off, none⟩) xs.length cc xs) (hl : xs.length = m * kk) (hr : r < kk) (hc : c + pm ≤ m) : Rd w B (some ⟨b, off + r * m + c, none⟩) pm (cc - r * m - c) (segL m xs r c pm) := (h.row hl hr).sub hc
section
variable {m kk pm pk r c i : Nat} {xs ys : List Int}
theorem segL_len (hl : xs.length = m * kk) (hr : r < kk) (hc : c + pm ≤ m) : (segL m xs r c pm).length = pm := by
  unfold segL
  rw [List.length_take, List.length_drop, rowL_len hl hr]; omega
theorem segL_get {j : Nat} (hc : c + pm ≤ m) (hj : j < pm) : (segL m xs r c pm).getD j 0 = elt m xs r (c + j) := by
  unfold segL
  rw [List.getD_eq_getElem?_getD, List.getElem?_take, if_pos hj, List.getElem?_drop, ← List.getD_eq_getElem?_getD, rowL_get (by omega)]
  rfl
theorem occ_iff (hl : xs.length = m * kk) (hl' : ys.length = pm * pk) (hr : r + pk ≤ kk) (hc : c + pm ≤ m) : occB m xs pm pk ys r c = true ↔ ∀ i, i < pk → segL m xs (r + i) c pm = rowL pm i ys := by
  have hg : partL m xs r c pk pm = gridL pk pm fun i j => elt m xs (r + i) (c + j) := rfl
  unfold occB
  rw [decide_eq_true_eq, hg]
  constructor
  · intro h i hi
    refine list_ext0 (by rw [segL_len hl (by omega) hc, rowL_len hl' hi]) fun q hq => ?_
    rw [segL_len hl (by omega) hc] at hq
    rw [segL_get hc hq, rowL_get hq, ← h, gridL_get hi hq]
  · intro h
    refine (gridL_ext (by rw [hl', Nat.mul_comm]) fun i j hi hj => ?_).symm
    rw [← segL_get hc hj, h i hi, rowL_get hj]
end
set_option maxRecDepth 100000 in
set_option maxHeartbeats 8000000 in
theorem occursAt_any (m kk pm pk b off cc B b' off' cc' B' r c : Nat) (xs ys : List Int) (w : World) (hR : Rd w B (some ⟨b, off, none⟩) xs.length cc xs) (hR' : Rd w B' (some ⟨b', off', none⟩) ys.length cc' ys) (hB : B ≤ w.heap.size) (hB' : B' ≤ w.heap.size)
    (m1 : 1 ≤ m) (m8 : m ≤ 8) (k8 : kk ≤ 8) (p1 : 1 ≤ pm) (p8 : pm ≤ 8) (p9 : pk ≤ 8) (hl : Hid (xs.length = m * kk)) (hl' : Hid (ys.length = pm * pk)) (hrk : r + pk ≤ kk) (hcm : c + pm ≤ m) (d : Bool) (hd : occB m xs pm pk ys r c = d) :
    Calls Try.prog 98 #[chartV m kk (.slice (some ⟨b, off, none⟩) xs.length cc), chartV pm pk (.slice (some ⟨b', off', none⟩) ys.length cc'), .int .i64 r, .int .i64 c] w (Out w (.bool d)) := by
  have hb0 := Lib.hid (((Below.refl w.heap.size w).alloc (Nat.le_refl _) (.cells #[.int .i64 m, .int .i64 kk, .slice (some ⟨b, off, none⟩) xs.length cc] 26)).alloc (by simp) (.cells #[.int .i64 pm, .int .i64 pk, .slice (some ⟨b', off', none⟩) ys.length cc'] 26))
  have R0 := (hR.alloc hB (.cells #[.int .i64 m, .int .i64 kk, .slice (some ⟨b, off, none⟩) xs.length cc] 26)).alloc (by simp; omega) (.cells #[.int .i64 pm, .int .i64 pk, .slice (some ⟨b', off', none⟩) ys.length cc'] 26)
  have S0 := (hR'.alloc hB' (.cells #[.int .i64 m, .int .i64 kk, .slice (some ⟨b, off, none⟩) xs.length cc] 26)).alloc (by simp; omega) (.cells #[.int .i64 pm, .int .i64 pk, .slice (some ⟨b', off', none⟩) ys.length cc'] 26)
  have x0 := (Blk.new w #[.int .i64 m, .int .i64 kk, .slice (some ⟨b, off, none⟩) xs.length cc] 26).alloc (.cells #[.int .i64 pm, .int .i64 pk, .slice (some ⟨b', off', none⟩) ys.length cc'] 26)
  have y0 := (Blk.new (w.alloc (.cells #[.int .i64 m, .int .i64 kk, .slice (some ⟨b, off, none⟩) xs.length cc] 26)) #[.int .i64 pm, .int .i64 pk, .slice (some ⟨b', off', none⟩) ys.length cc'] 26).at_ (q := w.heap.size + 1) (by simp)
  have hcap := hR.cap
  have hmax := hR.max
  have hcap' := hR'.cap
  have hmax' := hR'.max
  have HD := Lib.hid hd
  clear hR hR' hd
  go_enter Try.func98, Try.ntmps98
  go_wp2
  go_loopw [12] (fun s12 wr => ∃ i : Nat, i ≤ pk ∧ s12 = .int .i64 i ∧ Hid (∀ q, q < i → segL m xs (r + q) c pm = rowL pm q ys) ∧ Blk wr w.heap.size 26 #[.int .i64 m, .int .i64 kk, .slice (some ⟨b, off, none⟩) xs.length cc] ∧ Blk wr (w.heap.size + 1) 26 #[.int .i64 pm, .int .i64 pk, .slice (some ⟨b', off', none⟩) ys.length cc'] ∧ Rd wr B (some ⟨b, off, none⟩) xs.length cc xs ∧ Rd wr B' (some ⟨b', off', none⟩) ys.length cc' ys ∧ Hid (Below w.heap.size w wr)) (fun s12 _ => pk - (intOf s12).toNat)
  case atStart => exact ⟨0, Nat.zero_le _, rfl, Lib.hid (fun q hq => absurd hq (Nat.not_lt_zero _)), x0, y0, R0, S0, hb0⟩
  case round =>
    clear x0 y0 R0 S0 hb0
    obtain ⟨i, hi, rfl, hsame, x1, y1, R1, S1, HB⟩ := hrel
    by_cases hlt : i < pk
    · have hri : r + i < kk := by omega
      have ex0 := x1.cell 0
      have ex1 := x1.cell 1
      have ex2 := x1.cell 2
      have ey0 := y1.cell 0
      have ey1 := y1.cell 1
      have ey2 := y1.cell 2
      have hzx := x1.lt
      have hzy := y1.lt
      have hz1 : w.heap.size ≤ wr.heap.size := HB.out.size
      have hw1 : IntKind.i64.wrap ((r : Int) + (i : Int)) = (r : Int) + (i : Int) := IntWalk.i64_in _ (by omega)
      have hw2 : IntKind.i64.wrap ((c : Int) + (pm : Int)) = (c : Int) + (pm : Int) := IntWalk.i64_in _ (by omega)
      have HRI := Lib.hid (show (r : Int) + (i : Int) = ((r + i : Nat) : Int) by omega)
      have hrow := row_le hl.out hri
      have hrow' := row_le hl'.out hlt
      have hcp : c + pm ≤ cc - (r + i) * m := by omega
      have hcp' : (c : Int) + (pm : Int) ≤ ((cc - (r + i) * m : Nat) : Int) := by omega
      have hcne : ¬ cc - (r + i) * m = c := by omega
      have htn : ((c : Int) + (pm : Int)).toNat = c + pm := by omega
      have hcl : (c : Int) ≤ (c : Int) + (pm : Int) := by omega
      have hc0 : (0 : Int) ≤ (c : Int) := by omega
      have hcs : c + pm - c = pm := by omega
      obtain ⟨dd, HDD⟩ : ∃ dd, Hid (decide (segL m xs (r + i) c pm = rowL pm i ys) = dd) := ⟨_, rfl⟩
      go_wp2
      go_region_held3 (fun w' => w'.cell? ⟨w.heap.size, 0, none⟩ = some (.int .i64 m) ∧ w'.cell? ⟨w.heap.size, 1, none⟩ = some (.int .i64 kk) ∧ w'.cell? ⟨w.heap.size, 2, none⟩ = some (.slice (some ⟨b, off, none⟩) xs.length cc) ∧ w'.cell? ⟨w.heap.size + 1, 0, none⟩ = some (.int .i64 pm) ∧ w'.cell? ⟨w.heap.size + 1, 1, none⟩ = some (.int .i64 pk) ∧ w'.cell? ⟨w.heap.size + 1, 2, none⟩ = some (.slice (some ⟨b', off', none⟩) ys.length cc')) (first | exact ⟨ex0, ex1, ex2, ey0, ey1, ey2⟩ | go_keep) (first | (go_at_call 86; (with_reducible refine (rowOf_i m kk (r + i) b off xs.length cc _ hl.out hcap hmax m1 m8 hri k8 _ HRI.out).mono ?_); rintro e w3 ⟨rfl, hb3⟩; (try replace hb3 := below_drew' hb3); have S3 := S1.all hb3 (Nat.le_trans hB' hz1); have R3 := R1.all hb3 (Nat.le_trans hB hz1); have HB3 := Lib.hid (HB.out.trans (hb3.mono hz1)); have x3 := x1.all hb3; have y3 := y1.all hb3; have hz3 : w.heap.size ≤ w3.heap.size := Nat.le_trans hz1 hb3.size; replace ex0 := cells_of hb3 ex0 hzx; replace ex1 := cells_of hb3 ex1 hzx; replace ex2 := cells_of hb3 ex2 hzx; replace ey0 := cells_of hb3 ey0 hzy; replace ey1 := cells_of hb3 ey1 hzy; replace ey2 := cells_of hb3 ey2 hzy; have hzx3 := x3.lt; have hzy3 := y3.lt; clear hb3) | (go_at_call 86; (with_reducible refine (rowOf_s pm pk i b' off' ys.length cc' _ hl'.out hcap' hmax' p1 p8 hlt p9).mono ?_); rintro e w4 ⟨rfl, hb4⟩; have S4 := S3.all hb4 (Nat.le_trans hB' hz3); have R4 := R3.all hb4 (Nat.le_trans hB hz3); have HB4 := Lib.hid (HB3.out.trans (hb4.mono hz3)); have x4 := x3.all hb4; have y4 := y3.all hb4; have hz4 : w.heap.size ≤ w4.heap.size := Nat.le_trans hz3 hb4.size; replace ex0 := cells_of hb4 ex0 hzx3; replace ex1 := cells_of hb4 ex1 hzx3; replace ex2 := cells_of hb4 ex2 hzx3; replace ey0 := cells_of hb4 ey0 hzy3; replace ey1 := cells_of hb4 ey1 hzy3; replace ey2 := cells_of hb4 ey2 hzy3; have hzx4 := x4.lt; have hzy4 := y4.lt; clear hb4) | (go_at_call 96; (with_reducible refine (equal_eq b (off + (r + i) * m + c) pm (cc - (r + i) * m - c) b' (off' + i * pm) pm (cc' - i * pm) B B' _ _ _ (Rd.seg R4 hl.out hri hcm) (S4.row hl'.out hlt) p1 p1 dd HDD.out).mono ?_); rintro e w5 ⟨rfl, hb5⟩; have S5 := S4.all hb5 (Nat.le_trans hB' hz4); have R5 := R4.all hb5 (Nat.le_trans hB hz4); have HB5 := Lib.hid (HB4.out.trans (hb5.mono hz4)); have x5 := x4.all hb5; have y5 := y4.all hb5; replace ex0 := cells_of hb5 ex0 hzx4; replace ex1 := cells_of hb5 ex1 hzx4; replace ex2 := cells_of hb5 ex2 hzx4; replace ey0 := cells_of hb5 ey0 hzy4; replace ey1 := cells_of hb5 ey1 hzy4; replace ey2 := cells_of hb5 ey2 hzy4; clear hb5))
      clear x1 y1 R1 S1 HB x3 y3 R3 S3 HB3 x4 y4 R4 S4 HB4 ex0 ex1 ex2 ey0 ey1 ey2
      cases dd with
      | true =>
        have HN := Lib.hid (show ∀ q, q < i + 1 → segL m xs (r + q) c pm = rowL pm q ys from fun q hq => by
          by_cases e : q = i
          · subst e; simpa using HDD.out
          · exact hsame.out q (by omega))
        go_wp2
        go_roundw
        case rel => exact ⟨i + 1, by omega, by go_num, HN, x5, y5, R5, S5, HB5⟩
        case measure => simp [intOf]; omega
      | false =>
        have HN := Lib.hid (show d = false by
          rw [← HD.out]
          cases h : occB m xs pm pk ys r c with
          | false => rfl
          | true =>
            have := (occ_iff hl.out hl'.out hrk hcm).1 h i hlt
            have h5 := HDD.out
            rw [decide_eq_false_iff_not] at h5
            exact absurd this h5)
        go_wp2
        go_ret
        exact ⟨ret_bool HN.out.symm, HB5.out⟩
    · obtain rfl : i = pk := by omega
      have HN := Lib.hid (show d = true by rw [← HD.out]; exact (occ_iff hl.out hl'.out hrk hcm).2 hsame.out)
      go_wp2
      go_ret
      exact ⟨ret_bool HN.out.symm, HB.out⟩
end Go.Proofs.Ytehhidpmbbabeaa
