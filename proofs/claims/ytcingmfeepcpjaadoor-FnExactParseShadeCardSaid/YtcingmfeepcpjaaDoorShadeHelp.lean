/- The walks of the laws' own helpers over the struct Shade and slices of it. Condition: at most 1048576 elements. -/
import Derived.Test.YtcingmfeepcpjaaDoorShadeData
import Derived.Test.YtcingmfeepcpjaaDoorHelp
import Derived.Test.YtcingmfeepcpjaaDoorMark
namespace Go.Proofs.YtcingmfeepcpjaaDoor
open Go.RowKit

set_option maxRecDepth 100000 in
set_option maxHeartbeats 400000 in
theorem eqShade_same (s : ShadeR) (w : World) : Calls Tryd.prog 6 #[.agg #[.int .i64 s.f0, .string s.f1, .int .i64 s.f2, .int .i64 s.f3, .int .i64 s.f4], .agg #[.int .i64 s.f0, .string s.f1, .int .i64 s.f2, .int .i64 s.f3, .int .i64 s.f4]] w (Out w (.bool true)) := by
  go_enter Tryd.func6, Tryd.ntmps6
  go_wp2
  go_ret
  exact ⟨rfl, by repeat (first | exact Below.refl _ _ | refine belowN ?_ _ | refine belowD ?_ | (refine Below.setCell ?_ (by first | (simp; done) | (simp; omega)) _) | (refine Below.alloc ?_ (by first | (simp; done) | (simp; omega)) _))⟩

theorem info_Shade : (Tryd.prog.info? 23).map (fun i => (i.zero, i.size, i.bytes)) = some (some (.agg #[.int .i64 0, .string ⟨#[]⟩, .int .i64 0, .int .i64 0, .int .i64 0]), 5, 48) := by kernel_rfl
/-- How much the strings of the elements hold. -/
def bulkShade (xs : List ShadeR) : Nat := (xs.map fun s => s.f1.size).sum
theorem bulkShade_step {xs : List ShadeR} {k : Nat} {a : ShadeR} (h : xs[k]? = some a) : bulkShade (xs.take (k + 1)) = bulkShade (xs.take k) + (a.f1.size) ∧ bulkShade (xs.take (k + 1)) ≤ bulkShade xs := by
  obtain ⟨hk, rfl⟩ := List.getElem?_eq_some_iff.1 h
  have e : bulkShade (xs.take (k + 1)) + bulkShade (xs.drop (k + 1)) = bulkShade xs := by
    unfold bulkShade
    rw [← List.sum_append_nat, ← List.map_append, List.take_append_drop]
  refine ⟨?_, by omega⟩
  unfold bulkShade
  rw [List.take_succ_eq_append_getElem hk, List.map_append, List.sum_append_nat]
  simp only [List.map_cons, List.map_nil, List.sum_cons, List.sum_nil, Nat.add_zero]
/-- What marking leaves. -/
def markedShade (k : Int) (n : Nat) : List ShadeR := (List.range n).map fun j : Nat => ⟨k + 5 * (j : Int), mtext (k + 5 * (j : Int) + 1), k + 5 * (j : Int) + 1 + 1, k + 5 * (j : Int) + 1 + 1 + 1, k + 5 * (j : Int) + 1 + 1 + 1 + 1⟩
theorem markedShade_len (k : Int) (n : Nat) : (markedShade k n).length = n := by simp [markedShade]
theorem markedShade_at (k : Int) (n j : Nat) (h : j < n) : (markedShade k n)[j]? = some ⟨k + 5 * (j : Int), mtext (k + 5 * (j : Int) + 1), k + 5 * (j : Int) + 1 + 1, k + 5 * (j : Int) + 1 + 1 + 1, k + 5 * (j : Int) + 1 + 1 + 1 + 1⟩ := by simp [markedShade, h]
end Go.Proofs.YtcingmfeepcpjaaDoor
