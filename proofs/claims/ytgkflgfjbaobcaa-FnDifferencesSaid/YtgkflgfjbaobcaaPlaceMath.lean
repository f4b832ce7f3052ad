/- Plain mathematics of the places at which a motif occurs; pairs of numbers as elements of a slice. -/
import Derived.Test.YtgkflgfjbaobcaaSeq
import Derived.Test.YtgkflgfjbaobcaaPartMath
namespace Go.Proofs.Ytgkflgfjbaobcaa
open Go.RowKit

structure PairR where
  f0 : Int
  f1 : Int
deriving DecidableEq
def PairR.ok (s : PairR) : Prop := I64 s.f0 ∧ I64 s.f1
def pairF : Flat PairR := { t := 53, k := 2, enc := fun s => [.int .i64 s.f0, .int .i64 s.f1], ok := PairR.ok, len := fun _ => rfl, one := fun s v h => by simp only [List.mem_cons, List.not_mem_nil, or_false] at h; rcases h with rfl | rfl <;> rfl }
theorem Pair_at {w : World} {B n c j : Nat} {A : Option Addr} {xs : List PairR} (h : RdF pairF w B A n c xs) (hj : j < n) :
    ∃ b off s, A = some ⟨b, off, none⟩ ∧ b < B ∧ s.ok ∧ Hid (xs[j]? = some s) ∧ w.cell? ⟨b, off + j * 2, none⟩ = some (.int .i64 s.f0) ∧ w.cell? ⟨b, off + j * 2 + 1, none⟩ = some (.int .i64 s.f1) := by
  obtain ⟨b, off, s, e, hb, ho, hx, hc⟩ := h.at hj
  have hc' := hc
  unfold Hid at hc'
  exact ⟨b, off, s, e, hb, ho, hx, hc' 0 _ rfl, hc' 1 _ rfl⟩
/-- A motif of pm columns and pk rows occurs at a place of a chart of m columns. -/
def occB (m : Nat) (xs : List Int) (pm pk : Nat) (ys : List Int) (r c : Nat) : Bool := decide (partL m xs r c pk pm = ys)
def rowPl (m : Nat) (xs : List Int) (pm pk : Nat) (ys : List Int) (r t : Nat) : List PairR := ((List.range t).filter fun c => occB m xs pm pk ys r c).map fun c : Nat => ⟨(r : Int), (c : Int)⟩
def placesTo (m : Nat) (xs : List Int) (pm pk : Nat) (ys : List Int) (n : Nat) : List PairR := (List.range n).flatMap fun r => rowPl m xs pm pk ys r (m + 1 - pm)
def placesL (m kk : Nat) (xs : List Int) (pm pk : Nat) (ys : List Int) : List PairR := placesTo m xs pm pk ys (kk + 1 - pk)
section
variable {m kk pm pk r t n : Nat} {xs ys : List Int}
theorem rowPl_zero : rowPl m xs pm pk ys r 0 = [] := rfl
theorem rowPl_yes (h : occB m xs pm pk ys r t = true) : rowPl m xs pm pk ys r (t + 1) = rowPl m xs pm pk ys r t ++ [⟨(r : Int), (t : Int)⟩] := by
  unfold rowPl
  rw [List.range_succ, List.filter_append, List.map_append, List.filter_cons, if_pos h]
  rfl
theorem rowPl_no (h : occB m xs pm pk ys r t = false) : rowPl m xs pm pk ys r (t + 1) = rowPl m xs pm pk ys r t := by
  unfold rowPl
  rw [List.range_succ, List.filter_append, List.map_append, List.filter_cons, if_neg (by rw [h]; decide)]
  simp
theorem rowPl_len : (rowPl m xs pm pk ys r t).length ≤ t := by
  unfold rowPl
  rw [List.length_map]
  exact Nat.le_trans (List.length_filter_le _ _) (by simp)
theorem placesTo_zero : placesTo m xs pm pk ys 0 = [] := rfl
theorem placesTo_succ : placesTo m xs pm pk ys (n + 1) = placesTo m xs pm pk ys n ++ rowPl m xs pm pk ys n (m + 1 - pm) := by
  unfold placesTo
  rw [List.range_succ, List.flatMap_append]
  simp
theorem placesTo_len : (placesTo m xs pm pk ys n).length ≤ n * (m + 1 - pm) := by
  induction n with
  | zero => simp [placesTo]
  | succ n ih =>
    have := rowPl_len (m := m) (xs := xs) (pm := pm) (pk := pk) (ys := ys) (r := n) (t := m + 1 - pm)
    rw [placesTo_succ, List.length_append, Nat.succ_mul]
    omega
theorem placesL_len (m8 : m ≤ 8) (k8 : kk ≤ 8) (p1 : 1 ≤ pm) (p2 : 1 ≤ pk) : (placesL m kk xs pm pk ys).length ≤ 64 := by
  refine Nat.le_trans placesTo_len ?_
  have : (kk + 1 - pk) * (m + 1 - pm) ≤ 8 * 8 := Nat.mul_le_mul (by omega) (by omega)
  omega
/-- All that is found lies in the bounds. -/
theorem placesTo_mem {a : PairR} (h : a ∈ placesTo m xs pm pk ys n) : ∃ r c : Nat, a = ⟨(r : Int), (c : Int)⟩ ∧ r < n ∧ c < m + 1 - pm ∧ occB m xs pm pk ys r c = true := by
  unfold placesTo at h
  obtain ⟨r, hr, h⟩ := List.mem_flatMap.1 h
  unfold rowPl at h
  obtain ⟨c, hc, rfl⟩ := List.mem_map.1 h
  obtain ⟨hc, ho⟩ := List.mem_filter.1 hc
  exact ⟨r, c, rfl, List.mem_range.1 hr, List.mem_range.1 hc, ho⟩
end
theorem ok_small {a b : Nat} (ha : a ≤ 64) (hb : b ≤ 64) : PairR.ok ⟨(a : Int), (b : Int)⟩ := ⟨⟨by simp only; omega, by simp only; omega⟩, ⟨by simp only; omega, by simp only; omega⟩⟩
theorem info_Pair : (Try.prog.info? 53).map (fun i => (i.zero, i.size, i.bytes)) = some (some (.agg #[.int .i64 0, .int .i64 0]), 2, 16) := by kernel_rfl
end Go.Proofs.Ytgkflgfjbaobcaa
