/- The draws of chapter 12's functions: charts, with a color, with an area, with both. Condition: at most 65536 bytes. -/
import Derived.Test.YtpnmnkdnlajfiaaDraws12
namespace Go.Proofs.Ytpnmnkdnlajfiaa
open Go.RowKit

def GaveCI (w : World) (e : Ending) (w' : World) : Prop := ∃ (W H : Int) (A : Option Addr) (c : Nat) (xs : List Int) (f : Int), e = .returned (.tuple #[chartV W H (.slice A xs.length c), .int .i64 f]) ∧ Small W H xs ∧ I64 f ∧ Own w' w.heap.size (.slice A xs.length c) xs ∧ Below w.heap.size w w'
theorem grown_drew' {w w' : World} {row : Option Nat} (h : w.drew.grownBy w' row) : w.grownBy w' row := ⟨h.os, h.tape, h.output, h.size, h.block⟩
theorem cells_mark {w w' : World} {p b j : Nat} {v : Value} (h : w.cell? ⟨b, j, none⟩ = some v) (hg : w.grownBy w' (some p)) (hne : b ≠ p) : w'.cell? ⟨b, j, none⟩ = some v :=
  hg.cell (a := ⟨b, j, none⟩) h (fun e => hne (by injection e))
set_option maxRecDepth 100000 in
set_option maxHeartbeats 4000000 in
theorem drawIsChart_any (A : Option Addr) (n c B : Nat) (w : World) (h : RdB w B A n c) (hB : B ≤ w.heap.size) (hn : n ≤ 65536) : Calls Try.prog 33 #[.slice A n c] w (GaveChart w) := by
  have r0 := (Blk.new w #[.int .i64 0, .int .i64 0, .slice none 0 0] 26).alloc (.cells #[.slice A n c, .int .i64 0, .int .u64 0] 45)
  have hc0 : Cur ((w.alloc (.cells #[.int .i64 0, .int .i64 0, .slice none 0 0] 26)).alloc (.cells #[.slice A n c, .int .i64 0, .int .u64 0] 45)) (w.heap.size + 1) 0 := by
    have := cur_new (h.alloc hB (.cells #[.int .i64 0, .int .i64 0, .slice none 0 0] 26)) (by simp; omega) hn
    simpa using this
  have HB : Below w.heap.size w ((w.alloc (.cells #[.int .i64 0, .int .i64 0, .slice none 0 0] 26)).alloc (.cells #[.slice A n c, .int .i64 0, .int .u64 0] 45)) := ((Below.refl _ _).alloc (Nat.le_refl _) _).alloc (by simp) _
  clear h
  go_enter Try.func33, Try.ntmps33
  go_wp2_with fail
  refine (chart_any (w.heap.size + 1) 0 _ hc0 (by omega)).mono ?_
  rintro e w1 ⟨W, H, A1, c1, xs, rfl, hsm, own, hc1, hg1⟩
  replace r0 := r0.mark hg1 (fun z hz => by cases hz; omega)
  replace HB := HB.trans (grown_below hg1 (by omega) HB.size)
  replace own := own.mono (show w.heap.size ≤ _ by simp; omega)
  clear hc0 hc1 hg1
  have g0 := r0.cell 0
  have z0 := r0.frozen 0
  have g1 := r0.cell 1
  have z1 := r0.frozen 1
  have g2 := r0.cell 2
  have z2 := r0.frozen 2
  have F := fin3 (p := w.heap.size) (a := .int .i64 W) (b := .int .i64 H) (c := .slice A1 xs.length c1) own (row_ne' own.1 r0 (by decide)) HB (Nat.le_refl _)
  go_wp2
  exact bodyPost_ret (v := chartV W H (.slice A1 xs.length c1)) (by simp [results, Try.results33, go_sem, *]) rfl ⟨W, H, A1, c1, xs, rfl, hsm, F.1, F.2⟩
theorem vInts_low (A A' : Option Addr) (n c n' c' B B' : Nat) (xs : List Int) (w : World) (h : Rd w B A n c xs) (h' : Rd w B' A' n' c' xs) :
    Calls Try.prog 8 #[.slice A n c, .slice A' n' c'] w fun e w' => e = .returned (.bool true) ∧ Below w.heap.size w w' := by
  refine (vInts_same A A' n c n' c' B B' xs w h h').mono ?_
  rintro e w' ⟨rfl, q, rfl⟩
  exact ⟨rfl, low_drewN w q⟩
end Go.Proofs.Ytpnmnkdnlajfiaa
