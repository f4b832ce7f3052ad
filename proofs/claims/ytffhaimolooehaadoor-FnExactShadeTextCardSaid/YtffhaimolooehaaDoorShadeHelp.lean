/- The walks of the laws' own helpers over the struct Shade and slices of it. Condition: at most 1048576 elements. -/
import Derived.Test.YtffhaimolooehaaDoorShadeData
import Derived.Test.YtffhaimolooehaaDoorHelp
import Derived.Test.YtffhaimolooehaaDoorMark
namespace Go.Proofs.YtffhaimolooehaaDoor
open Go.RowKit

set_option maxRecDepth 100000 in
set_option maxHeartbeats 400000 in
theorem toShade_any (s : ShadeR) (w : World) : Calls Tryd.prog 7 #[.agg #[.int .i64 s.f0, .string s.f1, .int .i64 s.f2, .int .i64 s.f3, .int .i64 s.f4]] w (Out w (.agg #[.int .i64 s.f0, .string s.f1, .int .i64 s.f2, .int .i64 s.f3, .int .i64 s.f4])) := by
  go_enter Tryd.func7, Tryd.ntmps7
  go_wp2
  refine bodyPost_ret (v := .agg #[.int .i64 s.f0, .string s.f1, .int .i64 s.f2, .int .i64 s.f3, .int .i64 s.f4]) (by simp [results, Tryd.results7, go_sem]) rfl ⟨rfl, ?_⟩
  repeat (first | exact Below.refl _ _ | refine belowN ?_ _ | refine belowD ?_ | (refine Below.setCell ?_ (by first | (simp; done) | (simp; omega)) _) | (refine Below.alloc ?_ (by first | (simp; done) | (simp; omega)) _))

set_option maxRecDepth 100000 in
set_option maxHeartbeats 400000 in
theorem szShade_yes (s : ShadeR) (k : Int) (w : World) (h : (s.f1.size : Int) ≤ k) (hk : k ≤ 1048576) : Calls Tryd.prog 5 #[.agg #[.int .i64 s.f0, .string s.f1, .int .i64 s.f2, .int .i64 s.f3, .int .i64 s.f4], .int .i64 k] w (Out w (.int .i64 (k - ((s.f1.size : Int))))) := by
  have q1 : 0 ≤ (s.f1.size : Int) := by omega
  go_enter Tryd.func5, Tryd.ntmps5
  go_wp2
  go_ret
  exact ⟨ret_int (by omega), by repeat (first | exact Below.refl _ _ | refine belowN ?_ _ | refine belowD ?_ | (refine Below.setCell ?_ (by first | (simp; done) | (simp; omega)) _) | (refine Below.alloc ?_ (by first | (simp; done) | (simp; omega)) _))⟩
set_option maxRecDepth 100000 in
set_option maxHeartbeats 400000 in
theorem szShade_no (s : ShadeR) (k : Int) (w : World) (hok : s.ok) (h : ¬ (s.f1.size : Int) ≤ k) (h0 : 0 ≤ k) (hk : k ≤ 1048576) : Calls Tryd.prog 5 #[.agg #[.int .i64 s.f0, .string s.f1, .int .i64 s.f2, .int .i64 s.f3, .int .i64 s.f4], .int .i64 k] w (Out w (.int .i64 (-1))) := by
  obtain ⟨h0, h1, h2, h3, h4⟩ := hok
  unfold maxLen at *

  have c1' : k - ((s.f1.size : Int)) < 0 := by omega
  go_enter Tryd.func5, Tryd.ntmps5
  go_wp2
  go_ret
  exact ⟨rfl, by repeat (first | exact Below.refl _ _ | refine belowN ?_ _ | refine belowD ?_ | (refine Below.setCell ?_ (by first | (simp; done) | (simp; omega)) _) | (refine Below.alloc ?_ (by first | (simp; done) | (simp; omega)) _))⟩

set_option maxRecDepth 100000 in
set_option maxHeartbeats 400000 in
theorem eqShade_same (s : ShadeR) (w : World) : Calls Tryd.prog 11 #[.agg #[.int .i64 s.f0, .string s.f1, .int .i64 s.f2, .int .i64 s.f3, .int .i64 s.f4], .agg #[.int .i64 s.f0, .string s.f1, .int .i64 s.f2, .int .i64 s.f3, .int .i64 s.f4]] w (Out w (.bool true)) := by
  go_enter Tryd.func11, Tryd.ntmps11
  go_wp2
  go_ret
  exact ⟨rfl, by repeat (first | exact Below.refl _ _ | refine belowN ?_ _ | refine belowD ?_ | (refine Below.setCell ?_ (by first | (simp; done) | (simp; omega)) _) | (refine Below.alloc ?_ (by first | (simp; done) | (simp; omega)) _))⟩

theorem info_Shade : (Tryd.prog.info? 27).map (fun i => (i.zero, i.size, i.bytes)) = some (some (.agg #[.int .i64 0, .string ⟨#[]⟩, .int .i64 0, .int .i64 0, .int .i64 0]), 5, 48) := by kernel_rfl
/-- How much the strings of the elements hold. -/
def bulkShade (xs : List ShadeR) : Nat := (xs.map fun s => s.f1.size).sum
theorem bulkShade_step {xs : List ShadeR} {k : Nat} {a : ShadeR} (h : xs[k]? = some a) : bulkShade (xs.take (k + 1)) = bulkShade (xs.take k) + (a.f1.size) ∧ bulkShade (xs.take (k + 1)) ≤ bulkShade xs := by
  obtain ⟨hk, rfl⟩ := List.getElem?_eq_some_iff.1 h
  have e : bulkShade (xs.take (k + 1)) + bulkShade (xs.drop (k + 1)) = bulkShade xs := by
    unfold bulkShade
    rw [← List.sum_append_nat, ← List.map_append, List.take_append_drop]
  refine ⟨?_, by omega⟩
  unfold bulkShade
  rw [List.take_succ_eq_append_getElem hk, List.map_append, List.sum_append_nat]
  simp only [List.map_cons, List.map_nil, List.sum_cons, List.sum_nil, Nat.add_zero]
/-- What marking leaves. -/
def markedShade (k : Int) (n : Nat) : List ShadeR := (List.range n).map fun j : Nat => ⟨k + 5 * (j : Int), mtext (k + 5 * (j : Int) + 1), k + 5 * (j : Int) + 1 + 1, k + 5 * (j : Int) + 1 + 1 + 1, k + 5 * (j : Int) + 1 + 1 + 1 + 1⟩
theorem markedShade_len (k : Int) (n : Nat) : (markedShade k n).length = n := by simp [markedShade]
theorem markedShade_at (k : Int) (n j : Nat) (h : j < n) : (markedShade k n)[j]? = some ⟨k + 5 * (j : Int), mtext (k + 5 * (j : Int) + 1), k + 5 * (j : Int) + 1 + 1, k + 5 * (j : Int) + 1 + 1 + 1, k + 5 * (j : Int) + 1 + 1 + 1 + 1⟩ := by simp [markedShade, h]
end Go.Proofs.YtffhaimolooehaaDoor
