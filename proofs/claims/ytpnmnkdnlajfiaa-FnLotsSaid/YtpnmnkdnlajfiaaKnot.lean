/- The walks of KnotAt, the program's and the model's, and of what they call. No condition. -/
import Derived.Test.YtpnmnkdnlajfiaaChart
namespace Go.Proofs.Ytpnmnkdnlajfiaa
open Go.RowKit

set_option maxRecDepth 100000 in
set_option maxHeartbeats 1000000 in
theorem isWithin_any (W H row col h k : Int) (v : Value) (w : World) (hW : 1 ≤ W ∧ W ≤ 8) (hH : 1 ≤ H ∧ H ≤ 8) (_ : I64 row) (_ : I64 col) :
    Calls Try.prog 82 #[chartV W H v, .int .i64 row, .int .i64 col, .int .i64 h, .int .i64 k] w (Out w (.bool (withinB W H row col h k))) := by
  have hb0 := Lib.hid (show Below w.heap.size w (w.alloc (.cells #[.int .i64 W, .int .i64 H, v] 26)) from (Below.refl _ _).alloc (Nat.le_refl _) _)
  by_cases h1 : 0 ≤ row
  · by_cases h2 : 0 ≤ col
    · by_cases h3 : 1 ≤ h
      · by_cases h4 : 1 ≤ k
        · have i1 : row ≤ 9223372036854775807 := (‹I64 row›).2
          have i2 : col ≤ 9223372036854775807 := (‹I64 col›).2
          go_enter Try.func82, Try.ntmps82
          go_wp2
          all_goals
            go_ret
            exact ⟨ret_bool (by simp [withinB, *] <;> omega), hb0.out⟩
        · have h4' : k < 1 := by omega
          go_enter Try.func82, Try.ntmps82
          go_wp2
          go_ret
          exact ⟨ret_bool (by simp [withinB]; omega), hb0.out⟩
      · have h3' : h < 1 := by omega
        go_enter Try.func82, Try.ntmps82
        go_wp2
        go_ret
        exact ⟨ret_bool (by simp [withinB]; omega), hb0.out⟩
    · have h2' : col < 0 := by omega
      go_enter Try.func82, Try.ntmps82
      go_wp2
      go_ret
      exact ⟨ret_bool (by simp [withinB]; omega), hb0.out⟩
  · have h1' : row < 0 := by omega
    go_enter Try.func82, Try.ntmps82
    go_wp2
    go_ret
    exact ⟨ret_bool (by simp [withinB]; omega), hb0.out⟩

/-- A row of a chart, as a slice that reads as a list. -/
theorem Rd.row {w : World} {B b off c m k r : Nat} {xs : List Int} (h : Rd w B (some ⟨b, off, none⟩) xs.length c xs) (hl : xs.length = m * k) (hr : r < k) : Rd w B (some ⟨b, off + r * m, none⟩) m (c - r * m) (rowL m r xs) := by
  have hle := row_le hl hr
  have hc := h.cap
  have hm := h.max
  refine ⟨rowL_len hl hr, by omega, by omega, fun hn => ?_, fun x hx => h.fits x (List.mem_of_mem_drop (List.mem_of_mem_take hx)), fun e => by cases e⟩
  obtain ⟨b', off', e, hb, hcell⟩ := h.cells (by omega)
  cases e
  exact ⟨b, off + r * m, rfl, hb, fun j hj => by rw [Nat.add_assoc, hcell _ (by omega), rowL_get hj]⟩
theorem within_spec {W H : Int} {xs : List Int} {row col : Int} : knotOk W H xs row col = (goodB W H xs && inB row 0 (H - 1) && inB col 0 (W - 1)) := by
  rw [Bool.eq_iff_iff]
  simp [knotOk, withinB, inB, and_assoc]
  intro _ _
  exact ⟨fun h => by omega, fun h => by omega⟩
end Go.Proofs.Ytpnmnkdnlajfiaa
