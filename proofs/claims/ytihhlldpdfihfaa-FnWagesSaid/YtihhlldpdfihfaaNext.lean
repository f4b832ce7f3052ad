/- The walk of the cursor's next: one byte of the code, or of what goes on behind it. Condition: fewer than 4294967296 draws. -/
import Derived.Test.YtihhlldpdfihfaaDraw
import Derived.Laws.BitsAllLaws
namespace Go.Proofs.Ytihhlldpdfihfaa
open Go.RowKit

/-- What a draw of a number leaves: the number, the cursor, nothing else written. -/
def Drew (w : World) (p k : Nat) (P : Int → Prop) (e : Ending) (w' : World) : Prop := ∃ x : Int, e = .returned (.int .i64 x) ∧ P x ∧ Cur w' p k ∧ w.grownBy w' (some p)
theorem drew_grown (w : World) (row : Option Nat) : w.grownBy w.drew row := ⟨rfl, rfl, rfl, Nat.le_refl _, fun _ _ _ => rfl⟩
/-- The cursor behind a draw. -/
theorem cur_next {w : World} {p n c a k B : Nat} {A : Option Addr} {sd sd' : Int} (hC : Blk w p 52 #[.slice A n c, .int .i64 a, .int .u64 sd]) (hR : RdB w B A n c) (hBp : B ≤ p) (hn : n ≤ 65536) (hak : a ≤ k) :
    Cur ((w.setCell ⟨p, 1, none⟩ (.int .i64 ((a : Int) + 1))).setCell ⟨p, 2, none⟩ (.int .u64 sd')) p (k + 1) ∧ w.grownBy ((w.setCell ⟨p, 1, none⟩ (.int .i64 ((a : Int) + 1))).setCell ⟨p, 2, none⟩ (.int .u64 sd')) (some p) := by
  have h1 : w.grownBy (w.setCell ⟨p, 1, none⟩ (.int .i64 ((a : Int) + 1))) (some p) := grown_setCell _ _ _
  have h2 : (w.setCell ⟨p, 1, none⟩ (.int .i64 ((a : Int) + 1))).grownBy ((w.setCell ⟨p, 1, none⟩ (.int .i64 ((a : Int) + 1))).setCell ⟨p, 2, none⟩ (.int .u64 sd')) (some p) := grown_setCell _ _ _
  have hg := grown_trans h1 h2
  refine ⟨⟨B, A, n, c, a + 1, sd', ?_, hR.mark hg (fun z hz => by cases hz; exact hBp) (Nat.le_trans hBp (Nat.le_of_lt hC.lt)), hBp, hn, by omega⟩, hg⟩
  have := (hC.set_ 1 (.int .i64 ((a : Int) + 1))).set_ 2 (.int .u64 sd')
  simpa using this
theorem cur_drew {w : World} {p k : Nat} (h : Cur w p k) : Cur w.drew p k := h.all ⟨rfl, rfl, rfl, Nat.le_refl _, fun _ _ => rfl⟩
theorem and255 (X : Int) (h0 : 0 ≤ X) (h1 : X < 18446744073709551616) : 0 ≤ wrap64 (bits .and .u64 X 255) ∧ wrap64 (bits .and .u64 X 255) ≤ 255 := by
  rw [u64_and X 255 h0 h1 (by omega) (by omega)]
  have h : X.toNat &&& (255 : Int).toNat ≤ 255 := Nat.and_le_right
  rw [IntWalk.wrap64_in _ (by omega)]
  omega
set_option maxRecDepth 100000 in
set_option maxHeartbeats 4000000 in
theorem next_any (p k : Nat) (w : World) (h : Cur w p k) (hk : k ≤ 4294967296) : Calls Try.prog 53 #[.pointer (some ⟨p, 0, none⟩)] w (Drew w p (k + 1) fun x => 0 ≤ x ∧ x ≤ 255) := by
  obtain ⟨B, A, n, c, a, sd, hC, hR, hBp, hn, hak⟩ := h
  have c0 := hC.cell 0
  have c1 := hC.cell 1
  have c2 := hC.cell 2
  have z1 := hC.frozen 1
  have z2 := hC.frozen 2
  have hcap := hR.cap
  have hmax := hR.max
  unfold maxLen at hmax
  by_cases hlt : a < n
  · obtain ⟨b, off, rfl, hbB, hcell⟩ := hR.cells (by omega)
    obtain ⟨x, x0, x1, hx⟩ := hcell a hlt
    have hbp : b ≠ p := by omega
    have hle : a + 1 ≤ n := hlt
    clear hcell
    go_enter Try.func53, Try.ntmps53
    go_wp2
    go_region
    go_wp2
    go_region
    go_wp2
    go_region
    go_wp2
    go_ret
    obtain ⟨h1, h2⟩ := cur_next (sd' := IntKind.u64.wrap (IntKind.u64.wrap (IntKind.u64.wrap (sd * 6364136223846793005) + x) + 102323)) hC hR hBp hn hak
    exact ⟨x, rfl, ⟨x0, x1⟩, cur_drew (cur_drew (cur_drew h1)), grown_trans (grown_trans (grown_trans h2 (drew_grown _ _)) (drew_grown _ _)) (drew_grown _ _)⟩
  · go_enter Try.func53, Try.ntmps53
    go_wp2
    go_region
    go_wp2
    go_region
    go_wp2
    go_ret
    obtain ⟨h1, h2⟩ := cur_next (sd' := IntKind.u64.wrap (IntKind.u64.wrap (IntKind.u64.wrap (sd * 6364136223846793005)) + 102323)) hC hR hBp hn hak
    have hw : 0 ≤ IntKind.u64.wrap (IntKind.u64.wrap (IntKind.u64.wrap (sd * 6364136223846793005)) + 102323) ∧ IntKind.u64.wrap (IntKind.u64.wrap (IntKind.u64.wrap (sd * 6364136223846793005)) + 102323) < 18446744073709551616 := by
      generalize IntKind.u64.wrap (IntKind.u64.wrap (sd * 6364136223846793005)) + 102323 = y
      rw [IntKind.wrap_u64]
      omega
    have ha := and255 (IntKind.u64.wrap (IntKind.u64.wrap (IntKind.u64.wrap (sd * 6364136223846793005)) + 102323) / 1099511627776) (by omega) (by omega)
    exact ⟨_, rfl, ha, cur_drew (cur_drew h1), grown_trans (grown_trans h2 (drew_grown _ _)) (drew_grown _ _)⟩
end Go.Proofs.Ytihhlldpdfihfaa
