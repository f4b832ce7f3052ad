/- The walks of KnotAt, the program's and the model's, and of what they call. No condition. -/
import Derived.Test.YtgkflgfjbaobcaaChart
namespace Go.Proofs.Ytgkflgfjbaobcaa
open Go.RowKit

set_option maxRecDepth 100000 in
set_option maxHeartbeats 1000000 in
theorem isWithin_any (W H row col h k : Int) (v : Value) (w : World) (hW : 1 ≤ W ∧ W ≤ 8) (hH : 1 ≤ H ∧ H ≤ 8) (_ : I64 row) (_ : I64 col) :
    Calls Try.prog 48 #[chartV W H v, .int .i64 row, .int .i64 col, .int .i64 h, .int .i64 k] w (Out w (.bool (withinB W H row col h k))) := by
  have hb0 := Lib.hid (show Below w.heap.size w (w.alloc (.cells #[.int .i64 W, .int .i64 H, v] 26)) from (Below.refl _ _).alloc (Nat.le_refl _) _)
  by_cases h1 : 0 ≤ row
  · by_cases h2 : 0 ≤ col
    · by_cases h3 : 1 ≤ h
      · by_cases h4 : 1 ≤ k
        · have i1 : row ≤ 9223372036854775807 := (‹I64 row›).2
          have i2 : col ≤ 9223372036854775807 := (‹I64 col›).2
          go_enter Try.func48, Try.ntmps48
          go_wp2
          all_goals
            go_ret
            exact ⟨ret_bool (by simp [withinB, *] <;> omega), hb0.out⟩
        · have h4' : k < 1 := by omega
          go_enter Try.func48, Try.ntmps48
          go_wp2
          go_ret
          exact ⟨ret_bool (by simp [withinB]; omega), hb0.out⟩
      · have h3' : h < 1 := by omega
        go_enter Try.func48, Try.ntmps48
        go_wp2
        go_ret
        exact ⟨ret_bool (by simp [withinB]; omega), hb0.out⟩
    · have h2' : col < 0 := by omega
      go_enter Try.func48, Try.ntmps48
      go_wp2
      go_ret
      exact ⟨ret_bool (by simp [withinB]; omega), hb0.out⟩
  · have h1' : row < 0 := by omega
    go_enter Try.func48, Try.ntmps48
    go_wp2
    go_ret
    exact ⟨ret_bool (by simp [withinB]; omega), hb0.out⟩

/-- A row of a chart, as a slice that reads as a list. -/
theorem Rd.row {w : World} {B b off c m k r : Nat} {xs : List Int} (h : Rd w B (some ⟨b, off, none⟩) xs.length c xs) (hl : xs.length = m * k) (hr : r < k) : Rd w B (some ⟨b, off + r * m, none⟩) m (c - r * m) (rowL m r xs) := by
  have hle := row_le hl hr
  have hc := h.cap
  have hm := h.max
  refine ⟨rowL_len hl hr, by omega, by omega, fun hn => ?_, fun x hx => h.fits x (List.mem_of_mem_drop (List.mem_of_mem_take hx)), fun e => by cases e⟩
  obtain ⟨b', off', e, hb, hcell⟩ := h.cells (by omega)
  cases e
  exact ⟨b, off + r * m, rfl, hb, fun j hj => by rw [Nat.add_assoc, hcell _ (by omega), rowL_get hj]⟩
theorem within_spec {W H : Int} {xs : List Int} {row col : Int} : knotOk W H xs row col = (goodB W H xs && inB row 0 (H - 1) && inB col 0 (W - 1)) := by
  rw [Bool.eq_iff_iff]
  simp [knotOk, withinB, inB, and_assoc]
  intro _ _
  exact ⟨fun h => by omega, fun h => by omega⟩
set_option maxRecDepth 100000 in
set_option maxHeartbeats 1000000 in
theorem l2Within_any (W H : Int) (A : Option Addr) (n c B : Nat) (xs : List Int) (row col : Int) (w : World) (h : Rd w B A n c xs) (hB : B ≤ w.heap.size) :
    Calls Try.prog 38 #[chartV W H (.slice A n c), .int .i64 row, .int .i64 col] w (Out w (.bool (knotOk W H xs row col))) := by
  have hb0 := Lib.hid (show Below w.heap.size w (w.alloc (.cells #[.int .i64 W, .int .i64 H, .slice A n c] 26)) from (Below.refl _ _).alloc (Nat.le_refl _) _)
  have h' := Lib.hid (h.alloc hB (.cells #[.int .i64 W, .int .i64 H, .slice A n c] 26))
  rw [within_spec]
  by_cases hg : goodB W H xs = true
  · obtain ⟨hW, hH, _, _⟩ := goodB_yes hg
    by_cases h1 : inB row 0 (H - 1) = true
    · go_enter Try.func38, Try.ntmps38
      go_wp2_with fail
      refine (l2Good_any W H A n c B xs _ h'.out (by simp; omega)).mono ?_
      rintro e w1 ⟨rfl, hb⟩
      obtain ⟨hc, _⟩ := bcell hb
      go_wp2_with (go_at_call 37; refine (l1In_any _ _ _ _).mono ?_; rintro e w' ⟨rfl, rfl⟩)
      go_ret
      exact ⟨ret_bool (by simp [hg, h1]), hb0.out.trans (hb.mono (by simp))⟩
    · have h1' := not_false h1
      go_enter Try.func38, Try.ntmps38
      go_wp2_with fail
      refine (l2Good_any W H A n c B xs _ h'.out (by simp; omega)).mono ?_
      rintro e w1 ⟨rfl, hb⟩
      obtain ⟨hc, _⟩ := bcell hb
      go_wp2_with (go_at_call 37; refine (l1In_any _ _ _ _).mono ?_; rintro e w' ⟨rfl, rfl⟩)
      go_ret
      exact ⟨ret_bool (by simp [h1']), hb0.out.trans (hb.mono (by simp))⟩
  · have hg' := not_false hg
    go_enter Try.func38, Try.ntmps38
    go_wp2_with fail
    refine (l2Good_any W H A n c B xs _ h'.out (by simp; omega)).mono ?_
    rintro e w1 ⟨rfl, hb⟩
    go_wp2_with fail
    go_ret
    exact ⟨ret_bool (by simp [hg']), hb0.out.trans (hb.mono (by simp))⟩
set_option maxRecDepth 100000 in
set_option maxHeartbeats 1000000 in
theorem l2At_any (m k r j b off c : Nat) (xs : List Int) (x : Int) (w : World) (h : xs.length = m * k) (h64 : m * k ≤ 64) (hr : r < k) (hj : j < m) (hB : b < w.heap.size)
    (hx : w.cell? ⟨b, off + (r * m + j), none⟩ = some (.int .i64 x)) :
    Calls Try.prog 39 #[chartV m k (.slice (some ⟨b, off, none⟩) xs.length c), .int .i64 r, .int .i64 j] w (Out w (.int .i64 x)) := by
  have hb0 := Lib.hid (show Below w.heap.size w (w.alloc (.cells #[.int .i64 m, .int .i64 k, .slice (some ⟨b, off, none⟩) xs.length c] 26)) from (Below.refl _ _).alloc (Nat.le_refl _) _)
  have hlt := at_lt h hr hj
  have h0 : (0 : Int) ≤ (r : Int) * (m : Int) := by rw [← Int.natCast_mul]; omega
  have h1 : (r : Int) * (m : Int) + (j : Int) < (xs.length : Int) := by rw [← Int.natCast_mul]; omega
  have e : ((r : Int) * (m : Int) + (j : Int)).toNat = r * m + j := by rw [← Int.natCast_mul]; omega
  have hl : xs.length ≤ 64 := by omega
  clear h
  go_enter Try.func39, Try.ntmps39
  go_wp2
  go_ret
  exact ⟨rfl, hb0.out⟩

end Go.Proofs.Ytgkflgfjbaobcaa
