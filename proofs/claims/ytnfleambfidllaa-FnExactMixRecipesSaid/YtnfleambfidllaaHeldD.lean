/- A list of parts holds the marks. No condition. -/
import Derived.Test.YtnfleambfidllaaDyePartHelp
namespace Go.Proofs.Ytnfleambfidllaa
open Go.RowKit

set_option maxRecDepth 100000 in
set_option maxHeartbeats 2000000 in
theorem heldDyePartS_any (A : Option Addr) (n c B : Nat) (k : Int) (w : World) (h : RdF dyePartF w B A n c (markedDyePart k n)) (hB : B ≤ w.heap.size) (hn : n ≤ 1048576) (h0 : 1 ≤ k) (h1 : k ≤ 1048576) :
    Calls Try.prog 27 #[.slice A n c, .int .i64 k] w (Out w (.int .i64 (k + 2 * n))) := by
  go_enter Try.func27, Try.ntmps27
  go_wp2
  go_loopw [1, 5] (fun kk i wr => ∃ (j : Nat) (m : Int), j ≤ n ∧ i = .int .i64 j ∧ kk = .int .i64 m ∧ m = k + 2 * j ∧ Below w.heap.size w wr) (fun _ i _ => n - (intOf i).toNat)
  case atStart => exact ⟨0, k, Nat.zero_le _, rfl, rfl, by omega, Below.refl _ _⟩
  case round =>
    obtain ⟨j, m, hj, rfl, rfl, hm, hb⟩ := hrel
    by_cases hlt : j < n
    · obtain ⟨b, off, a, rfl, hbB, _, HX, hc0, hc1⟩ := DyePartR_at (F := dyePartF) rfl (fun _ => rfl) (fun _ => rfl) h hlt
      have hm0 : 1 ≤ m := by omega
      have hm1 : m ≤ 20000000 := by omega
      obtain rfl : (⟨mtext m, m + 1⟩ : DyePartR) = a := by
        have h2 := HX.out
        rw [markedDyePart_at k n j hlt, ← hm] at h2
        exact Option.some.inj h2
      simp only at hc0 hc1
      have hx0 := (hb.cell (p := ⟨b, off + j * 2, none⟩) (by show b < _; omega)).trans hc0
      have hx1 := (hb.cell (p := ⟨b, off + j * 2 + 1, none⟩) (by show b < _; omega)).trans hc1
      have hbz := hb.size
      have hbr : b < wr.heap.size := by omega
      have HM := Lib.hid hm
      clear hc0 hc1 hm HX
      go_wp2
      go_region_held3 (fun w' => w'.cell? ⟨b, off + j * 2, none⟩ = some (.string (mtext m))) (first | exact hx0 | go_keep) ((go_at_call 58; refine (markText_any m _ (by omega) (by omega)).mono ?_; rintro e w1 ⟨rfl, hb1⟩; have hb2 : Below wr.heap.size wr w1 := below_drew hb1; have hbc := (bcell hb2).1))
      have hy1 := (hbc _ (off + j * 2 + 1) hbr).trans hx1
      have hbz2 := hb.trans (hb2.mono hb.size)
      go_wp2
      go_roundw
      case rel => exact ⟨j + 1, m + 2, by omega, by go_num, by go_num, by have := HM.out; omega, hbz2⟩
      case measure => simp [intOf]; omega
    · obtain rfl : j = n := by omega
      go_wp2
      go_ret
      exact ⟨ret_int (by omega), hb⟩
end Go.Proofs.Ytnfleambfidllaa
