/- make([]int, m), as a run and as an owned list. Condition: at most 4000 numbers. -/
import Derived.Test.YtgkflgfjbaobcaaMem
namespace Go.Proofs.Ytgkflgfjbaobcaa
open Go.RowKit

theorem mkI (w : World) (m : Nat) (hm : m ≤ 4000) : (Instr.makeSlice 24 (.int .i64 (m : Int)) (.int .i64 (m : Int))).run Try.prog w = .ok (.slice (some ⟨w.heap.size, 0, none⟩) m m) (w.alloc (.cells (madeCells #[.int .i64 0] m) 3)) := by
  obtain ⟨i0, hi, hz0, hz1, hz2⟩ := info_parts info_int
  have h := run_make w 24 3 i0 (.int .i64 0) Try.underlying24 hi hz0 .i64 .i64 (m : Int) (m : Int) (by omega) (by omega) (by rw [hz2]; omega) (by omega)
  rw [hz1, Int.toNat_natCast, Nat.mul_one] at h
  exact h
theorem own_made {w : World} {lo P m : Nat} (hP : w.heap.size = P) (hlo : lo ≤ P) (hm : m ≤ 4000) : Own (w.alloc (.cells (madeCells #[.int .i64 0] m) 3)) lo (.slice (some ⟨P, 0, none⟩) m m) (List.replicate m 0) := by
  subst hP
  have hl : ((List.replicate m (0 : Int)).map (Value.int .i64)).toArray = madeCells #[.int .i64 0] m := by
    rw [← Array.toList_inj]
    simp only [toList_madeCells_one, List.map_replicate]
  have := blk_own (w := w.alloc (.cells (madeCells #[.int .i64 0] m) 3)) (lo := lo) (g := w.heap.size) (xs := List.replicate m (0 : Int)) (by rw [hl]; exact Blk.new w _ _) hlo (by rw [List.length_replicate]; unfold maxLen; omega) (fun x hx => by rw [List.mem_replicate] at hx; rw [hx.2]; exact ⟨by omega, by omega⟩)
  rw [List.length_replicate] at this
  exact this
theorem getD_set_self {L : List Int} {a : Nat} {v : Int} (h : a < L.length) : (L.set a v).getD a 0 = v := by rw [List.getD_eq_getElem?_getD, List.getElem?_set_self h]; rfl
theorem getD_set_ne {L : List Int} {a b : Nat} {v : Int} (h : b ≠ a) : (L.set a v).getD b 0 = L.getD b 0 := by rw [List.getD_eq_getElem?_getD, List.getElem?_set_ne (fun e => h e.symm), ← List.getD_eq_getElem?_getD]
end Go.Proofs.Ytgkflgfjbaobcaa
