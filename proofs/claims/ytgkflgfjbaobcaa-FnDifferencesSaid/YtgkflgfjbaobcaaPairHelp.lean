/- The walks of the laws' own helpers over slices of pairs of numbers. Condition: at most 1048576 elements. -/
import Derived.Test.YtgkflgfjbaobcaaPlaceMath
import Derived.Test.YtgkflgfjbaobcaaHelp
namespace Go.Proofs.Ytgkflgfjbaobcaa
open Go.RowKit

def fm (k : Int) (q : Nat) : List Value := (List.range q).map fun t : Nat => .int .i64 (k + t)
theorem fm_len (k : Int) (q : Nat) : (fm k q).length = q := by simp [fm]
theorem fm_succ (k : Int) (q : Nat) : fm k (q + 1) = fm k q ++ [.int .i64 (k + q)] := by simp [fm, List.range_succ]
def markedP (k : Int) (n : Nat) : List PairR := (List.range n).map fun j : Nat => ⟨k + 2 * (j : Int), k + 2 * (j : Int) + 1⟩
theorem markedP_len (k : Int) (n : Nat) : (markedP k n).length = n := by simp [markedP]
theorem markedP_at (k : Int) (n j : Nat) (h : j < n) : (markedP k n)[j]? = some ⟨k + 2 * (j : Int), k + 2 * (j : Int) + 1⟩ := by simp [markedP, h]
theorem markedP_flat (k : Int) (n : Nat) : (markedP k n).flatMap pairF.enc = fm k (n * 2) := by
  induction n with
  | zero => simp [markedP, fm]
  | succ n ih =>
    have e : markedP k (n + 1) = markedP k n ++ [⟨k + 2 * (n : Int), k + 2 * (n : Int) + 1⟩] := by simp [markedP, List.range_succ]
    rw [e, List.flatMap_append, ih, Nat.succ_mul, show n * 2 + 2 = n * 2 + 1 + 1 by omega, fm_succ, fm_succ, List.append_assoc]
    congr 1
    simp only [List.flatMap_cons, List.flatMap_nil, List.append_nil, pairF, List.singleton_append]
    have e1 : k + 2 * (n : Int) = k + ((n * 2 : Nat) : Int) := by omega
    have e2 : k + 2 * (n : Int) + 1 = k + ((n * 2 + 1 : Nat) : Int) := by omega
    rw [e1, ← e2, ← e1]
theorem markedP_ok (k : Int) (n : Nat) (hn : n ≤ 1048576) (h0 : 1 ≤ k) (h1 : k ≤ 1048576) : ∀ x ∈ markedP k n, pairF.ok x := by
  intro x hx
  simp only [markedP, List.mem_map, List.mem_range] at hx
  obtain ⟨q, hq, rfl⟩ := hx
  exact ⟨⟨by show (-9223372036854775808 : Int) ≤ k + 2 * (q : Int); omega, by show k + 2 * (q : Int) ≤ (9223372036854775807 : Int); omega⟩, ⟨by show (-9223372036854775808 : Int) ≤ k + 2 * (q : Int) + 1; omega, by show k + 2 * (q : Int) + 1 ≤ (9223372036854775807 : Int); omega⟩⟩
theorem take_fm {l : List Value} {k : Int} {q : Nat} (h : l.take q = fm k q) (hq : q < l.length) : (l.set q (.int .i64 (k + q))).take (q + 1) = fm k (q + 1) := by
  rw [fm_succ, List.take_set, List.take_succ_eq_append_getElem hq, h, List.set_append, if_neg (by rw [fm_len]; omega), fm_len]
  simp
end Go.Proofs.Ytgkflgfjbaobcaa
