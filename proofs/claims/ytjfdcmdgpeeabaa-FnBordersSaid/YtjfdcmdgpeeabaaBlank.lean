/- The walk of the model's l6Blank. No condition. -/
import Derived.Test.YtjfdcmdgpeeabaaCopy
import Derived.Test.YtjfdcmdgpeeabaaChart
namespace Go.Proofs.Ytjfdcmdgpeeabaa
open Go.RowKit

set_option maxRecDepth 100000 in
set_option maxHeartbeats 2000000 in
theorem blank8_any (M K : Nat) (w : World) :
    Calls Try.prog 34 #[.int .i64 M, .int .i64 K] w (OutChart w (orZero (isSideB (M : Int) && isSideB (K : Int)) M) (orZero (isSideB (M : Int) && isSideB (K : Int)) K) (if (isSideB (M : Int) && isSideB (K : Int)) = true then List.replicate (M * K) 0 else []) (isSideB (M : Int) && isSideB (K : Int))) := by
  obtain ⟨i0, hi, hz0, hz1, hz2⟩ := info_parts info_int
  have hb0 := Lib.hid ((Below.refl w.heap.size w).alloc (Nat.le_refl _) (.cells #[.int .i64 0, .int .i64 0, .slice none 0 0] 26))
  have r0 := Blk.new w #[.int .i64 0, .int .i64 0, .slice none 0 0] 26
  by_cases h : (isSideB (M : Int) && isSideB (K : Int)) = true
  · rw [if_pos h, h]
    have h1 : isSideB (M : Int) = true := by simp at h; exact h.1
    have h2 : isSideB (K : Int) = true := by simp at h; exact h.2
    have b1 := isSideB_yes h1
    have b2 := isSideB_yes h2
    obtain ⟨N, hN⟩ : ∃ N, N = M * K := ⟨_, rfl⟩
    have hN64 : N ≤ 64 := by rw [hN]; exact Nat.mul_le_mul (show M ≤ 8 by omega) (show K ≤ 8 by omega)
    have hw : IntKind.i64.wrap ((M : Int) * (K : Int)) = (N : Int) := by rw [← Int.natCast_mul, ← hN]; exact IntWalk.i64_in _ (by omega)
    rw [← hN]
    clear hN
    have g0 := r0.cell 0
    have g1 := r0.cell 1
    have g2 := r0.cell 2
    clear h
    go_enter Try.func34, Try.ntmps34
    go_wp2_with (first | (go_at_call 69; (with_reducible refine (l2Side_any _ _).mono ?_); rintro e w' ⟨rfl, rfl⟩) | (at_make; refine wpList_make_full _ rfl _ _ 24 rfl w.heap.size 3 i0 (.int .i64 0) 1 Try.underlying24 hi hz0 hz1 _ _ _ _ N rfl rfl rfl rfl (by rw [hz2]; omega) (by unfold maxLen; omega) (by simp) ?_))
    intro w1 hown0 hg0
    have r1 := r0.mark hg0 (fun k h => by cases h)
    have HO : Own w1 w.heap.size (.slice (some ⟨w.heap.size + 1, 0, none⟩) N N) (List.replicate N 0) := by
      refine ⟨?_, fun x hx => ?_⟩
      · have := hown0
        rw [toList_madeCells_one] at this
        rw [List.length_replicate, List.map_replicate]
        simpa using this
      · rw [List.mem_replicate] at hx
        rw [hx.2]; exact ⟨by omega, by omega⟩
    have HB := Lib.hid (hb0.out.grown hg0 (by simp) (fun k h => by cases h))
    have f0 := r1.cell 0
    have f1 := r1.cell 1
    have f2 := r1.cell 2
    have z0 := r1.frozen 0
    have z1 := r1.frozen 1
    have z2 := r1.frozen 2
    clear hown0 hg0 g0 g1 g2 r0
    go_wp2
    have F := fin3 (p := w.heap.size) (a := .int .i64 (M : Int)) (b := .int .i64 (K : Int)) (c := .slice (some ⟨w.heap.size + 1, 0, none⟩) N N) HO (by simp [Value.ownBlock]) HB.out (Nat.le_refl _)
    exact bodyPost_ret (v := .tuple #[chartV M K (.slice (some ⟨w.heap.size + 1, 0, none⟩) N N), .bool true]) (by simp [results, Try.results34, go_sem, f0, f1, f2]) rfl ⟨_, _, by rw [List.length_replicate]; rfl, by rw [List.length_replicate]; exact F.1, F.2⟩
  · rw [if_neg h, not_false h]
    have g0 := r0.cell 0
    have g1 := r0.cell 1
    have g2 := r0.cell 2
    have z0 := r0.frozen 0
    have z1 := r0.frozen 1
    have z2 := r0.frozen 2
    have hzr := r0.lt
    by_cases h1 : isSideB (M : Int) = true
    · have h2 : isSideB (K : Int) = false := by rw [h1] at h; simpa using h
      go_enter Try.func34, Try.ntmps34
      go_wp2_with (go_at_call 69; (with_reducible refine (l2Side_any _ _).mono ?_); rintro e w' ⟨rfl, rfl⟩)
      exact bodyPost_ret (v := .tuple #[chartV 0 0 (.slice none 0 0), .bool false]) (by simp [results, Try.results34, go_sem, g0, g1, g2]) rfl ⟨none, 0, rfl, Own.nil _ _, hb0.out⟩
    · have h1' := not_false h1
      go_enter Try.func34, Try.ntmps34
      go_wp2_with (go_at_call 69; (with_reducible refine (l2Side_any _ _).mono ?_); rintro e w' ⟨rfl, rfl⟩)
      exact bodyPost_ret (v := .tuple #[chartV 0 0 (.slice none 0 0), .bool false]) (by simp [results, Try.results34, go_sem, g0, g1, g2]) rfl ⟨none, 0, rfl, Own.nil _ _, hb0.out⟩
end Go.Proofs.Ytjfdcmdgpeeabaa
