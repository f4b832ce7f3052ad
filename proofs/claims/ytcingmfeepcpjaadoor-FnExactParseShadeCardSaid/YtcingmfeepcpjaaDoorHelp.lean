/- The walks of the laws' own helpers over slices of integers: copy, size, equality, marking, holding. Condition: at most 1048576 elements. -/
import Derived.Test.YtcingmfeepcpjaaDoorMem
namespace Go.Proofs.YtcingmfeepcpjaaDoor
open Go.RowKit

/-- What a copy leaves. -/
def Copied (w : World) (xs : List Int) (e : Ending) (w' : World) : Prop := ∃ g, e = .returned (.slice (some ⟨g, 0, none⟩) xs.length xs.length) ∧ Own w' w.heap.size (.slice (some ⟨g, 0, none⟩) xs.length xs.length) xs ∧ Below w.heap.size w w'

theorem fill_step {xs ys : List Int} {k : Nat} {x : Int} (hx : xs.getD k 0 = x) (hk : k < xs.length) (hl : ys.length = xs.length) (h : ys.take k = xs.take k) :
    (ys.set k x).take (k + 1) = xs.take (k + 1) := by
  rw [← hx, List.take_set, List.take_succ_eq_append_getElem (by omega), List.take_succ_eq_append_getElem hk, h, getD_at hk, List.set_append, if_neg (by simp; omega), List.length_take]
  simp [Nat.min_eq_left (Nat.le_of_lt hk)]

/-- Two slices that read as the same numbers are told equal. -/
def Yes (w : World) (e : Ending) (w' : World) : Prop := e = .returned (.bool true) ∧ ∃ q, w' = w.drewN q
/-- The numbers from k on. -/
def iota (k : Int) (n : Nat) : List Int := (List.range n).map fun j : Nat => k + (j : Int)
theorem iota_len (k : Int) (n : Nat) : (iota k n).length = n := by simp [iota]
theorem iota_get (k : Int) (n j : Nat) (h : j < n) : (iota k n).getD j 0 = k + j := by rw [getD_at (by simpa [iota_len] using h)]; simp [iota]
theorem iota_fits (k : Int) (n : Nat) (h0 : 0 ≤ k) (h1 : k ≤ 4294967296) (hn : n ≤ 4294967296) : ∀ x ∈ iota k n, I64 x := by
  intro x hx
  simp only [iota, List.mem_map, List.mem_range] at hx
  obtain ⟨j, hj, rfl⟩ := hx
  exact ⟨by omega, by omega⟩
theorem grown_trans {a b c : World} {row : Option Nat} (h : a.grownBy b row) (k : b.grownBy c row) : a.grownBy c row :=
  ⟨k.os.trans h.os, k.tape.trans h.tape, k.output.trans h.output, Nat.le_trans h.size k.size, fun i hi hne => (k.block i (Nat.lt_of_lt_of_le hi h.size) hne).trans (h.block i hi hne)⟩

/-- What marking leaves: the slice's own block alone has turned. -/
def Marked (w : World) (lo : Nat) (v : Value) (k : Int) (n : Nat) (e : Ending) (w' : World) : Prop :=
  e = .returned (.int .i64 (k + n)) ∧ Own w' lo v (iota k n) ∧ w.grownBy w' v.ownBlock
theorem iota_step {k : Int} {n j : Nat} {ys : List Int} (hj : j < n) (hl : ys.length = n) (h : ys.take j = (iota k n).take j) : (ys.set j (k + j)).take (j + 1) = (iota k n).take (j + 1) := by
  have hl' := iota_len k n
  rw [show k + (j : Int) = (iota k n).getD j 0 from (iota_get k n j hj).symm]
  have := fill_step (xs := iota k n) (ys := ys) (k := j) rfl (by omega) (by omega) h
  exact this

end Go.Proofs.YtcingmfeepcpjaaDoor
