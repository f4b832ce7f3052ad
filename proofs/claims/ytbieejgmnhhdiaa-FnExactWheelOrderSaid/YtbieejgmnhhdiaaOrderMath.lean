/- The order of shades around the wheel, as the model counts it, as plain mathematics. No condition. -/
import Derived.Test.YtbieejgmnhhdiaaCardMath
import Derived.Test.YtbieejgmnhhdiaaNearMath
namespace Go.Proofs.Ytbieejgmnhhdiaa
open Go.RowKit

/-- A shade's place: the steps from a step on, then its depth. -/
def keyI (fr : Int) (a : ShadeR) : Int := 10 * ((a.f2 - fr) % 24) + a.f3
def atKey (fr : Int) (t : Nat) (xs : List ShadeR) : List Int := (xs.filter fun a => decide (keyI fr a = (t : Int))).map ShadeR.f0
def segs (fr : Int) (xs : List ShadeR) (k : Nat) : List Int := (List.range k).flatMap fun t => atKey fr t xs
theorem segs_zero (fr : Int) (xs : List ShadeR) : segs fr xs 0 = [] := rfl
theorem segs_succ (fr : Int) (xs : List ShadeR) (k : Nat) : segs fr xs (k + 1) = segs fr xs k ++ atKey fr k xs := by
  unfold segs
  rw [List.range_succ, List.flatMap_append]
  simp
theorem atKey_zero (fr : Int) (t : Nat) (xs : List ShadeR) : atKey fr t (xs.take 0) = [] := rfl
theorem atKey_yes {fr : Int} {t i : Nat} {xs : List ShadeR} {a : ShadeR} (h : xs[i]? = some a) (hk : keyI fr a = (t : Int)) : atKey fr t (xs.take (i + 1)) = atKey fr t (xs.take i) ++ [a.f0] := by
  obtain ⟨hi, rfl⟩ := List.getElem?_eq_some_iff.1 h
  unfold atKey
  rw [List.take_succ_eq_append_getElem hi, List.filter_append, List.map_append, List.filter_cons, if_pos (by simpa using hk)]
  rfl
theorem atKey_no {fr : Int} {t i : Nat} {xs : List ShadeR} {a : ShadeR} (h : xs[i]? = some a) (hk : ¬ keyI fr a = (t : Int)) : atKey fr t (xs.take (i + 1)) = atKey fr t (xs.take i) := by
  obtain ⟨hi, rfl⟩ := List.getElem?_eq_some_iff.1 h
  unfold atKey
  rw [List.take_succ_eq_append_getElem hi, List.filter_append, List.map_append, List.filter_cons, if_neg (by simpa using hk)]
  simp
theorem atKey_len (fr : Int) (t : Nat) (xs : List ShadeR) : (atKey fr t xs).length ≤ xs.length := by
  unfold atKey
  rw [List.length_map]
  exact List.length_filter_le _ _
theorem segs_len (fr : Int) (xs : List ShadeR) (h : xs.length ≤ 10) (k : Nat) : (segs fr xs k).length ≤ 10 * k := by
  induction k with
  | zero => exact Nat.le_refl _
  | succ k ih =>
    have := atKey_len fr k xs
    rw [segs_succ, List.length_append]
    omega
/-- What the model asks of a shade is its place. -/
theorem key_iff {fr : Int} {a : ShadeR} {n d : Nat} (hf : Step fr) (hs : Step a.f2) (hd : Deep a.f3) (hn : n < 24) (hd9 : d ≤ 9) : keyI fr a = ((10 * n + d : Nat) : Int) ↔ a.f2 = (fr + n) % 24 ∧ a.f3 = d := by
  obtain ⟨f0, f1⟩ := hf
  obtain ⟨s0, s1⟩ := hs
  obtain ⟨d0, d1⟩ := hd
  unfold keyI
  omega
/-- Whether a list and a step are answered, and with what. -/
noncomputable def orderOk (xs : List ShadeR) (fr : Int) : Bool := cardB xs && inB fr 0 23
noncomputable def orderX (xs : List ShadeR) (fr : Int) : List Int := if orderOk xs fr = true then segs fr xs 240 else []
theorem order_no {xs : List ShadeR} {fr : Int} (h : cardB xs = false ∨ inB fr 0 23 = false) : orderX xs fr = [] ∧ orderOk xs fr = false := by
  have : orderOk xs fr = false := by rcases h with h | h <;> simp [orderOk, h]
  simp [orderX, this]
theorem order_yes {xs : List ShadeR} {fr : Int} (h : cardB xs = true) (h' : inB fr 0 23 = true) : orderX xs fr = segs fr xs 240 ∧ orderOk xs fr = true := by simp [orderX, orderOk, h, h']
theorem orderX_len (xs : List ShadeR) (fr : Int) : (orderX xs fr).length ≤ 100000 := by
  unfold orderX
  split
  · rename_i h
    have hc : cardB xs = true := by unfold orderOk at h; simp at h; exact h.1
    have := segs_len fr xs (cardB_of hc).1 240
    omega
  · simp
end Go.Proofs.Ytbieejgmnhhdiaa
