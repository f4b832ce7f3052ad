/- What the law FnLots asks of the plain functions; the draw of GreatestArea. No condition. -/
import Derived.Test.YtpnmnkdnlajfiaaLotsFn
import Derived.Test.YtpnmnkdnlajfiaaFewI
import Derived.Test.YtpnmnkdnlajfiaaDraws12b
namespace Go.Proofs.Ytpnmnkdnlajfiaa
open Go.RowKit

theorem lots_top {W H : Int} {xs : List Int} {f : Int} {ls : List Int} (h : (frst W H xs f ls).isSome = true) :
    ∃ (r : List Nat) (nf : Nat), srL (frst W H xs f ls) = upI r ∧ isAsg W H xs f ls (upI r) = true ∧ askOk W H xs f ls = true ∧ fewV (fewO W H xs f ls) = (nf : Int) ∧ nf ≤ dif12 r ∧ nf ≤ r.length ∧ r.length ≤ 64 := by
  obtain ⟨r, hr⟩ := Option.isSome_iff_exists.1 h
  obtain ⟨nf, hn⟩ := Option.isSome_iff_exists.1 (frst_few.symm.trans h)
  obtain ⟨h1, h2, h3, _⟩ := frst_some hr
  have hle := few_le hr hn
  have h64 := (sizesX_rng (W := W) (H := H) (xs := xs) (color := f)).1
  refine ⟨r, nf, by rw [hr]; rfl, h2, h1, by rw [hn]; rfl, hle, Nat.le_trans hle (dif_len r), by omega⟩
set_option maxRecDepth 100000 in
set_option maxHeartbeats 4000000 in
theorem drawGreatestArea_any (A : Option Addr) (n c B : Nat) (w : World) (h : RdB w B A n c) (hB : B ≤ w.heap.size) (hn : n ≤ 65536) : Calls Try.prog 15 #[.slice A n c] w (GaveChart w) := by
  have r0 := Blk.new w #[.int .i64 0, .int .i64 0, .slice none 0 0] 26
  have h' := h.alloc hB (.cells #[.int .i64 0, .int .i64 0, .slice none 0 0] 26)
  have HB : Below w.heap.size w (w.alloc (.cells #[.int .i64 0, .int .i64 0, .slice none 0 0] 26)) := (Below.refl _ _).alloc (Nat.le_refl _) _
  clear h
  go_enter Try.func15, Try.ntmps15
  go_wp2_with fail
  refine (drawIsChart_any A n c B _ h' (by simp; omega) hn).mono ?_
  rintro e w1 ⟨W, H, A1, c1, xs, rfl, hsm, own, hb⟩
  replace r0 := r0.all hb
  replace HB := HB.trans (hb.mono HB.size)
  replace own := own.mono (show w.heap.size ≤ _ by simp)
  clear hb h'
  have g0 := r0.cell 0
  have z0 := r0.frozen 0
  have g1 := r0.cell 1
  have z1 := r0.frozen 1
  have g2 := r0.cell 2
  have z2 := r0.frozen 2
  have F := fin3 (p := w.heap.size) (a := .int .i64 W) (b := .int .i64 H) (c := .slice A1 xs.length c1) own (row_ne' own.1 r0 (by decide)) HB (Nat.le_refl _)
  go_wp2
  exact bodyPost_ret (v := chartV W H (.slice A1 xs.length c1)) (by simp [results, Try.results15, go_sem, *]) rfl ⟨W, H, A1, c1, xs, rfl, hsm, F.1, F.2⟩
end Go.Proofs.Ytpnmnkdnlajfiaa
