/- The walks of KnotAt, the program's and the model's, and of what they call. No condition. -/
import Derived.Test.YtbhdgpkfighjfaaChart
namespace Go.Proofs.Ytbhdgpkfighjfaa
open Go.RowKit

set_option maxRecDepth 100000 in
set_option maxHeartbeats 1000000 in
theorem isWithin_any (W H row col h k : Int) (v : Value) (w : World) (hW : 1 ≤ W ∧ W ≤ 8) (hH : 1 ≤ H ∧ H ≤ 8) (_ : I64 row) (_ : I64 col) :
    Calls Try.prog 24 #[chartV W H v, .int .i64 row, .int .i64 col, .int .i64 h, .int .i64 k] w (Out w (.bool (withinB W H row col h k))) := by
  have hb0 := Lib.hid (show Below w.heap.size w (w.alloc (.cells #[.int .i64 W, .int .i64 H, v] 26)) from (Below.refl _ _).alloc (Nat.le_refl _) _)
  by_cases h1 : 0 ≤ row
  · by_cases h2 : 0 ≤ col
    · by_cases h3 : 1 ≤ h
      · by_cases h4 : 1 ≤ k
        · have i1 : row ≤ 9223372036854775807 := (‹I64 row›).2
          have i2 : col ≤ 9223372036854775807 := (‹I64 col›).2
          go_enter Try.func24, Try.ntmps24
          go_wp2
          all_goals
            go_ret
            exact ⟨ret_bool (by simp [withinB, *] <;> omega), hb0.out⟩
        · have h4' : k < 1 := by omega
          go_enter Try.func24, Try.ntmps24
          go_wp2
          go_ret
          exact ⟨ret_bool (by simp [withinB]; omega), hb0.out⟩
      · have h3' : h < 1 := by omega
        go_enter Try.func24, Try.ntmps24
        go_wp2
        go_ret
        exact ⟨ret_bool (by simp [withinB]; omega), hb0.out⟩
    · have h2' : col < 0 := by omega
      go_enter Try.func24, Try.ntmps24
      go_wp2
      go_ret
      exact ⟨ret_bool (by simp [withinB]; omega), hb0.out⟩
  · have h1' : row < 0 := by omega
    go_enter Try.func24, Try.ntmps24
    go_wp2
    go_ret
    exact ⟨ret_bool (by simp [withinB]; omega), hb0.out⟩

set_option maxRecDepth 100000 in
set_option maxHeartbeats 1000000 in
/-- A row's slice lies in the chart's own. -/
theorem rowOf_any (m k r b off c : Nat) (xs : List Int) (w : World) (h : xs.length = m * k) (hc : xs.length ≤ c) (hcm : c ≤ maxLen) (hm : 1 ≤ m) (hm8 : m ≤ 8) (hr : r < k) (hk8 : k ≤ 8) :
    Calls Try.prog 25 #[chartV m k (.slice (some ⟨b, off, none⟩) xs.length c), .int .i64 r] w (Out w (.slice (some ⟨b, off + r * m, none⟩) m (c - r * m))) := by
  have hb0 := Lib.hid (show Below w.heap.size w (w.alloc (.cells #[.int .i64 m, .int .i64 k, .slice (some ⟨b, off, none⟩) xs.length c] 26)) from (Below.refl _ _).alloc (Nat.le_refl _) _)
  have h2 : (r + 1) * m ≤ m * k := by rw [Nat.mul_comm]; exact Nat.mul_le_mul_left _ hr
  have h3 : (r + 1) * m = r * m + m := Nat.succ_mul r m
  have h4 : m * k ≤ 8 * 8 := Nat.mul_le_mul hm8 hk8
  unfold maxLen at hcm
  have q0 : (0 : Int) ≤ (r : Int) * (m : Int) := by rw [← Int.natCast_mul]; omega
  have q1 : (r : Int) * (m : Int) ≤ ((r : Int) + 1) * (m : Int) := by rw [Int.add_mul]; omega
  have q2 : ((r : Int) + 1) * (m : Int) ≤ (c : Int) := by rw [show (r : Int) + 1 = ((r + 1 : Nat) : Int) by omega, ← Int.natCast_mul]; omega
  have q3 : ((r : Int) + 1) * (m : Int) ≤ 64 := by rw [show (r : Int) + 1 = ((r + 1 : Nat) : Int) by omega, ← Int.natCast_mul]; omega
  have e1 : ((r : Int) * (m : Int)).toNat = r * m := by rw [← Int.natCast_mul]; rfl
  have e2 : (((r : Int) + 1) * (m : Int)).toNat = r * m + m := by rw [show (r : Int) + 1 = ((r + 1 : Nat) : Int) by omega, ← Int.natCast_mul, h3]; rfl
  clear h h2 h3
  go_enter Try.func25, Try.ntmps25
  go_wp2
  go_ret
  exact ⟨rfl, hb0.out⟩

set_option maxRecDepth 100000 in
set_option maxHeartbeats 1000000 in
theorem implKnotAt_any (W H : Int) (A : Option Addr) (n c B : Nat) (xs : List Int) (row col : Int) (w : World) (h : Rd w B A n c xs) (hB : B ≤ w.heap.size) (i1 : I64 row) (i2 : I64 col) :
    Calls Try.prog 10 #[chartV W H (.slice A n c), .int .i64 row, .int .i64 col] w (Out w (.tuple #[.int .i64 (knotV W H xs row col), .bool (knotOk W H xs row col)])) := by
  have hb0 := Lib.hid (show Below w.heap.size w (w.alloc (.cells #[.int .i64 W, .int .i64 H, .slice A n c] 26)) from (Below.refl _ _).alloc (Nat.le_refl _) _)
  have h' := h.alloc hB (.cells #[.int .i64 W, .int .i64 H, .slice A n c] 26)
  by_cases hg : goodB W H xs = true
  · by_cases hw : withinB W H row col 1 1 = true
    · have hok : knotOk W H xs row col = true := by simp [knotOk, hg, hw]
      have hv : knotV W H xs row col = xs.getD (row.toNat * W.toNat + col.toNat) 0 := if_pos hok
      rw [hok, hv]
      clear hok hv
      obtain ⟨m, k, rfl, rfl, m1, m8, k1, k8, hl, h64, hl1, _⟩ := good_nat hg
      obtain ⟨r0, c0, _, _, r1, c1⟩ := withinB_yes hw
      obtain ⟨r, rfl⟩ := Int.eq_ofNat_of_zero_le r0
      obtain ⟨j, rfl⟩ := Int.eq_ofNat_of_zero_le c0
      obtain rfl := h.len
      obtain ⟨b, off, rfl, hbB, hc0⟩ := h'.cells (by omega)
      have hxx := at_lt hl.out (show r < k by omega) (show j < m by omega)
      have hx := hc0 _ hxx
      rw [← Nat.add_assoc] at hx
      obtain ⟨x, HX⟩ : ∃ x, Hid (xs.getD (r * m + j) 0 = x) := ⟨_, rfl⟩
      rw [HX.out] at hx
      rw [show xs.getD ((r : Int).toNat * (m : Int).toNat + (j : Int).toNat) 0 = x from HX.out]
      have hcap := h.cap
      have hmax := h.max
      clear hc0 h
      go_enter Try.func10, Try.ntmps10
      go_wp2_with fail
      refine (implIsChart_any m k _ _ c B xs _ h' (by simp; omega)).mono ?_
      rintro e w1 ⟨rfl, hb⟩
      obtain ⟨hc, _⟩ := bcell hb
      have hz : w.heap.size < w1.heap.size := by have := hb.size; simp at this; omega
      go_wp2_with fail
      refine (isWithin_any m k r j 1 1 _ _ (by omega) (by omega) i1 i2).mono ?_
      rintro e w2 ⟨rfl, hb2⟩
      obtain ⟨hc2, _⟩ := bcell hb2
      have hz2 : w.heap.size < w2.heap.size := by have := hb2.size; omega
      go_wp2_with fail
      refine (rowOf_any m k r b off c xs _ hl.out hcap hmax m1 m8 (by omega) k8).mono ?_
      rintro e w3 ⟨rfl, hb3⟩
      obtain ⟨hc3, _⟩ := bcell hb3
      have hbw : b < w.heap.size := by omega
      have y1 : b < w1.heap.size := by omega
      have y2 : b < w2.heap.size := by omega
      go_wp2_with fail
      go_ret2
      exact ⟨rfl, ((hb0.out.trans (hb.mono (by simp))).trans (hb2.mono (by omega))).trans (hb3.mono (by omega))⟩
    · have hw' := not_false hw
      obtain ⟨hW, hH, _, _⟩ := goodB_yes hg
      rw [knotV_no (by simp [knotOk, hw']), show knotOk W H xs row col = false by simp [knotOk, hw']]
      go_enter Try.func10, Try.ntmps10
      go_wp2_with fail
      refine (implIsChart_any W H A n c B xs _ h' (by simp; omega)).mono ?_
      rintro e w1 ⟨rfl, hb⟩
      obtain ⟨hc, _⟩ := bcell hb
      have hz := hb.size
      go_wp2_with fail
      refine (isWithin_any W H row col 1 1 _ _ hW hH i1 i2).mono ?_
      rintro e w2 ⟨rfl, hb2⟩
      go_wp2_with fail
      go_ret2
      exact ⟨rfl, (hb0.out.trans (hb.mono (by simp))).trans (hb2.mono (by simp at hz; omega))⟩
  · have hg' := not_false hg
    rw [knotV_no (by simp [knotOk, hg']), show knotOk W H xs row col = false by simp [knotOk, hg']]
    go_enter Try.func10, Try.ntmps10
    go_wp2_with fail
    refine (implIsChart_any W H A n c B xs _ h' (by simp; omega)).mono ?_
    rintro e w1 ⟨rfl, hb⟩
    go_wp2_with fail
    go_ret2
    exact ⟨rfl, hb0.out.trans (hb.mono (by simp))⟩

/-- A row of a chart, as a slice that reads as a list. -/
theorem Rd.row {w : World} {B b off c m k r : Nat} {xs : List Int} (h : Rd w B (some ⟨b, off, none⟩) xs.length c xs) (hl : xs.length = m * k) (hr : r < k) : Rd w B (some ⟨b, off + r * m, none⟩) m (c - r * m) (rowL m r xs) := by
  have hle := row_le hl hr
  have hc := h.cap
  have hm := h.max
  refine ⟨rowL_len hl hr, by omega, by omega, fun hn => ?_, fun x hx => h.fits x (List.mem_of_mem_drop (List.mem_of_mem_take hx)), fun e => by cases e⟩
  obtain ⟨b', off', e, hb, hcell⟩ := h.cells (by omega)
  cases e
  exact ⟨b, off + r * m, rfl, hb, fun j hj => by rw [Nat.add_assoc, hcell _ (by omega), rowL_get hj]⟩
theorem within_spec {W H : Int} {xs : List Int} {row col : Int} : knotOk W H xs row col = (goodB W H xs && inB row 0 (H - 1) && inB col 0 (W - 1)) := by
  rw [Bool.eq_iff_iff]
  simp [knotOk, withinB, inB, and_assoc]
  intro _ _
  exact ⟨fun h => by omega, fun h => by omega⟩
set_option maxRecDepth 100000 in
set_option maxHeartbeats 1000000 in
theorem l2Within_any (W H : Int) (A : Option Addr) (n c B : Nat) (xs : List Int) (row col : Int) (w : World) (h : Rd w B A n c xs) (hB : B ≤ w.heap.size) :
    Calls Try.prog 34 #[chartV W H (.slice A n c), .int .i64 row, .int .i64 col] w (Out w (.bool (knotOk W H xs row col))) := by
  have hb0 := Lib.hid (show Below w.heap.size w (w.alloc (.cells #[.int .i64 W, .int .i64 H, .slice A n c] 26)) from (Below.refl _ _).alloc (Nat.le_refl _) _)
  have h' := Lib.hid (h.alloc hB (.cells #[.int .i64 W, .int .i64 H, .slice A n c] 26))
  rw [within_spec]
  by_cases hg : goodB W H xs = true
  · obtain ⟨hW, hH, _, _⟩ := goodB_yes hg
    by_cases h1 : inB row 0 (H - 1) = true
    · go_enter Try.func34, Try.ntmps34
      go_wp2_with fail
      refine (l2Good_any W H A n c B xs _ h'.out (by simp; omega)).mono ?_
      rintro e w1 ⟨rfl, hb⟩
      obtain ⟨hc, _⟩ := bcell hb
      go_wp2_with (go_at_call 43; refine (l1In_any _ _ _ _).mono ?_; rintro e w' ⟨rfl, rfl⟩)
      go_ret
      exact ⟨ret_bool (by simp [hg, h1]), hb0.out.trans (hb.mono (by simp))⟩
    · have h1' := not_false h1
      go_enter Try.func34, Try.ntmps34
      go_wp2_with fail
      refine (l2Good_any W H A n c B xs _ h'.out (by simp; omega)).mono ?_
      rintro e w1 ⟨rfl, hb⟩
      obtain ⟨hc, _⟩ := bcell hb
      go_wp2_with (go_at_call 43; refine (l1In_any _ _ _ _).mono ?_; rintro e w' ⟨rfl, rfl⟩)
      go_ret
      exact ⟨ret_bool (by simp [h1']), hb0.out.trans (hb.mono (by simp))⟩
  · have hg' := not_false hg
    go_enter Try.func34, Try.ntmps34
    go_wp2_with fail
    refine (l2Good_any W H A n c B xs _ h'.out (by simp; omega)).mono ?_
    rintro e w1 ⟨rfl, hb⟩
    go_wp2_with fail
    go_ret
    exact ⟨ret_bool (by simp [hg']), hb0.out.trans (hb.mono (by simp))⟩
set_option maxRecDepth 100000 in
set_option maxHeartbeats 1000000 in
theorem l2At_any (m k r j b off c : Nat) (xs : List Int) (x : Int) (w : World) (h : xs.length = m * k) (h64 : m * k ≤ 64) (hr : r < k) (hj : j < m) (hB : b < w.heap.size)
    (hx : w.cell? ⟨b, off + (r * m + j), none⟩ = some (.int .i64 x)) :
    Calls Try.prog 35 #[chartV m k (.slice (some ⟨b, off, none⟩) xs.length c), .int .i64 r, .int .i64 j] w (Out w (.int .i64 x)) := by
  have hb0 := Lib.hid (show Below w.heap.size w (w.alloc (.cells #[.int .i64 m, .int .i64 k, .slice (some ⟨b, off, none⟩) xs.length c] 26)) from (Below.refl _ _).alloc (Nat.le_refl _) _)
  have hlt := at_lt h hr hj
  have h0 : (0 : Int) ≤ (r : Int) * (m : Int) := by rw [← Int.natCast_mul]; omega
  have h1 : (r : Int) * (m : Int) + (j : Int) < (xs.length : Int) := by rw [← Int.natCast_mul]; omega
  have e : ((r : Int) * (m : Int) + (j : Int)).toNat = r * m + j := by rw [← Int.natCast_mul]; omega
  have hl : xs.length ≤ 64 := by omega
  clear h
  go_enter Try.func35, Try.ntmps35
  go_wp2
  go_ret
  exact ⟨rfl, hb0.out⟩

set_option maxRecDepth 100000 in
set_option maxHeartbeats 1000000 in
theorem specKnotAt_any (W H : Int) (A : Option Addr) (n c B : Nat) (xs : List Int) (row col : Int) (w : World) (h : Rd w B A n c xs) (hB : B ≤ w.heap.size) :
    Calls Try.prog 14 #[chartV W H (.slice A n c), .int .i64 row, .int .i64 col] w (Out w (.tuple #[.int .i64 (knotV W H xs row col), .bool (knotOk W H xs row col)])) := by
  have hb0 := Lib.hid (show Below w.heap.size w (w.alloc (.cells #[.int .i64 W, .int .i64 H, .slice A n c] 26)) from (Below.refl _ _).alloc (Nat.le_refl _) _)
  have h' := Lib.hid (h.alloc hB (.cells #[.int .i64 W, .int .i64 H, .slice A n c] 26))
  by_cases hok : knotOk W H xs row col = true
  · have hv : knotV W H xs row col = xs.getD (row.toNat * W.toNat + col.toNat) 0 := if_pos hok
    rw [hok, hv]
    clear hv
    have hg : goodB W H xs = true := by simp [knotOk] at hok; exact hok.1
    have hw : withinB W H row col 1 1 = true := by simp [knotOk] at hok; exact hok.2
    obtain ⟨m, k, rfl, rfl, m1, m8, k1, k8, hl, h64, hl1, _⟩ := good_nat hg
    obtain ⟨r0, c0, _, _, r1, c1⟩ := withinB_yes hw
    obtain ⟨r, rfl⟩ := Int.eq_ofNat_of_zero_le r0
    obtain ⟨j, rfl⟩ := Int.eq_ofNat_of_zero_le c0
    obtain rfl := h.len
    have hxx := at_lt hl.out (show r < k by omega) (show j < m by omega)
    obtain ⟨b, off, rfl, hbB, hc0⟩ := h'.out.cells (by omega)
    have hx := hc0 _ hxx
    obtain ⟨x, HX⟩ : ∃ x, Hid (xs.getD (r * m + j) 0 = x) := ⟨_, rfl⟩
    rw [HX.out] at hx
    rw [show xs.getD ((r : Int).toNat * (m : Int).toNat + (j : Int).toNat) 0 = x from HX.out]
    have hm64 : m * k ≤ 64 := by have := hl.out; omega
    clear hc0 h
    go_enter Try.func14, Try.ntmps14
    go_wp2_with fail
    refine (l2Within_any m k _ _ c B xs r j _ h'.out (by simp; omega)).mono ?_
    rintro e w1 ⟨rfl, hb⟩
    obtain ⟨hc, _⟩ := bcell hb
    have hz : w.heap.size < w1.heap.size := by have := hb.size; simp at this; omega
    rw [hok]
    go_wp2_with fail
    refine (l2At_any m k r j b off c xs x _ hl.out hm64 (by omega) (by omega) (by omega) ((hc b _ (by simp; omega)).trans hx)).mono ?_
    rintro e w2 ⟨rfl, hb2⟩
    go_wp2_with fail
    go_ret2
    exact ⟨rfl, (hb0.out.trans (hb.mono (by simp))).trans (hb2.mono (by omega))⟩
  · have hok' := not_false hok
    rw [knotV_no hok, hok']
    go_enter Try.func14, Try.ntmps14
    go_wp2_with fail
    refine (l2Within_any W H A n c B xs row col _ h'.out (by simp; omega)).mono ?_
    rintro e w1 ⟨rfl, hb⟩
    rw [hok']
    go_wp2_with fail
    go_ret2
    exact ⟨rfl, hb0.out.trans (hb.mono (by simp))⟩
end Go.Proofs.Ytbhdgpkfighjfaa
