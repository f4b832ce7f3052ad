/- Plain mathematics of AnyWayPlaces; headers of charts as elements of a slice. -/
import Derived.Test.YtjfdcmdgpeeabaaApartPMath
import Derived.Test.YtjfdcmdgpeeabaaSymMath
namespace Go.Proofs.Ytjfdcmdgpeeabaa
open Go.RowKit

structure ChR where
  W : Int
  H : Int
  A : Option Addr
  n : Nat
  c : Nat
def chartsF : Flat ChR := { t := 26, k := 3, enc := fun s => [.int .i64 s.W, .int .i64 s.H, .slice s.A s.n s.c], ok := fun _ => True, len := fun _ => rfl, one := fun s v h => by simp only [List.mem_cons, List.not_mem_nil, or_false] at h; rcases h with rfl | rfl | rfl <;> rfl }
theorem info_Chart6 : (Try.prog.info? 26).map (fun i => (i.zero, i.size, i.bytes)) = some (some (.agg #[.int .i64 0, .int .i64 0, .slice none 0 0]), 3, 40) := by kernel_rfl
/-- The headers hs are those of charts with slices of their own. -/
def SeenH (w : World) (lo : Nat) (hs : List ChR) (ps : List Pic) : Prop := hs.length = ps.length ∧ ∀ (j : Nat) (h : ChR) (q : Pic), hs[j]? = some h → ps[j]? = some q → h.W = (q.m : Int) ∧ h.H = (q.k : Int) ∧ h.n = q.xs.length ∧ Own w lo (.slice h.A h.n h.c) q.xs
theorem SeenH.nil (w : World) (lo : Nat) : SeenH w lo [] [] := ⟨rfl, fun j h q hj => by simp at hj⟩
theorem SeenH.all {w w' : World} {lo : Nat} {hs : List ChR} {ps : List Pic} (h : SeenH w lo hs ps) (hb : Below w.heap.size w w') : SeenH w' lo hs ps :=
  ⟨h.1, fun j x q hx hq => by obtain ⟨a, b, c, d⟩ := h.2 j x q hx hq; exact ⟨a, b, c, d.all hb⟩⟩
theorem SeenH.mark {w w' : World} {lo lo' n : Nat} {v : Value} {zs : List Value} {hs : List ChR} {ps : List Pic} (h : SeenH w lo hs ps) (hr : w.ownsRow lo' 26 3 v n zs) (hg : w.grownBy w' v.ownBlock) : SeenH w' lo hs ps :=
  ⟨h.1, fun j x q hx hq => by
    obtain ⟨a, b, c, d⟩ := h.2 j x q hx hq
    refine ⟨a, b, c, d.mark hg (fun k k' hk hk' e => ?_)⟩
    subst e
    rcases d.1.2 with ⟨e1, _⟩ | ⟨g, cap, cur, e1, _, hgc, _⟩
    · rw [e1] at hk'; cases hk'
    · rw [e1] at hk'; cases hk'
      rcases hr.2 with ⟨e2, _⟩ | ⟨g2, cap2, cur2, e2, _, hgc2, _⟩
      · rw [e2] at hk; cases hk
      · rw [e2] at hk; cases hk
        rw [hgc] at hgc2
        simp only [Option.some.injEq, Obj.cells.injEq] at hgc2
        exact absurd hgc2.2.1 (by decide)⟩
theorem SeenH.push {w : World} {lo : Nat} {hs : List ChR} {ps : List Pic} {x : ChR} {q : Pic} (h : SeenH w lo hs ps) (h1 : x.W = (q.m : Int)) (h2 : x.H = (q.k : Int)) (h3 : x.n = q.xs.length) (h4 : Own w lo (.slice x.A x.n x.c) q.xs) : SeenH w lo (hs ++ [x]) (ps ++ [q]) := by
  refine ⟨by simp [h.1], fun j y r hy hr => ?_⟩
  have hl := h.1
  by_cases hlt : j < hs.length
  · rw [List.getElem?_append_left hlt] at hy
    rw [List.getElem?_append_left (by omega)] at hr
    exact h.2 j y r hy hr
  · have hj : j - hs.length = 0 := by
      have := (List.getElem?_eq_some_iff.1 hy).1
      simp at this; omega
    rw [List.getElem?_append_right (by omega), hj] at hy
    rw [List.getElem?_append_right (by omega), show j - ps.length = 0 by omega] at hr
    simp at hy hr
    subst hy; subst hr
    exact ⟨h1, h2, h3, h4⟩
/-- Two pictures are the same. -/
def eqPic (q r : Pic) : Bool := decide (r.m = q.m ∧ r.k = q.k ∧ r.xs = q.xs)
/-- The different pictures that a motif becomes by the symmetries below a number. -/
def seenP (p : Pic) : Nat → List Pic
  | 0 => []
  | s + 1 => if ((seenP p s).any fun q => eqPic q (p.move s)) = true then seenP p s else seenP p s ++ [p.move s]
def anyTo (m kk : Nat) (xs : List Int) (p : Pic) (s : Nat) : Nat := ((seenP p s).map fun q => (placesL m kk xs q.m q.k q.xs).length).sum
section
variable {p : Pic} {s : Nat} {m kk : Nat} {xs : List Int}
theorem seenP_yes (h : ((seenP p s).any fun q => eqPic q (p.move s)) = true) : seenP p (s + 1) = seenP p s := by rw [seenP, if_pos h]
theorem seenP_no (h : ((seenP p s).any fun q => eqPic q (p.move s)) = false) : seenP p (s + 1) = seenP p s ++ [p.move s] := by rw [seenP, if_neg (by rw [h]; decide)]
theorem seenP_len : (seenP p s).length ≤ s := by
  induction s with
  | zero => exact Nat.le_refl _
  | succ s ih =>
    rw [seenP]
    split
    · omega
    · rw [List.length_append, List.length_singleton]; omega
theorem seenP_mem {q : Pic} (h : q ∈ seenP p s) : ∃ j, q = p.move j := by
  induction s with
  | zero => simp [seenP] at h
  | succ s ih =>
    rw [seenP] at h
    split at h
    · exact ih h
    · rcases List.mem_append.1 h with h | h
      · exact ih h
      · exact ⟨s, by simpa using h⟩
theorem any_yes (h : ((seenP p s).any fun q => eqPic q (p.move s)) = true) : anyTo m kk xs p (s + 1) = anyTo m kk xs p s := by unfold anyTo; rw [seenP_yes h]
theorem any_no (h : ((seenP p s).any fun q => eqPic q (p.move s)) = false) : anyTo m kk xs p (s + 1) = anyTo m kk xs p s + (placesL m kk xs (p.move s).m (p.move s).k (p.move s).xs).length := by
  unfold anyTo
  rw [seenP_no h, List.map_append, List.sum_append_nat]
  simp
theorem anyTo_le (m8 : m ≤ 8) (k8 : kk ≤ 8) (hp : p.Ok) : anyTo m kk xs p s ≤ 64 * s := by
  induction s with
  | zero => simp [anyTo, seenP]
  | succ s ih =>
    cases hb : ((seenP p s).any fun q => eqPic q (p.move s)) with
    | true => rw [any_yes hb]; omega
    | false =>
      have hm := hp.move s
      have := placesL_len (xs := xs) (ys := (p.move s).xs) m8 k8 hm.1 hm.2.2.1
      rw [any_no hb]
      omega
theorem any_step {ps : List Pic} {k : Nat} {q r : Pic} (h : ps[k]? = some q) : ((ps.take (k + 1)).any fun q => eqPic q r) = (((ps.take k).any fun q => eqPic q r) || eqPic q r) := by
  obtain ⟨hi, rfl⟩ := List.getElem?_eq_some_iff.1 h
  rw [List.take_succ_eq_append_getElem hi, List.any_append]
  simp
end
def anyN (W H : Int) (xs : List Int) (pW pH : Int) (ys : List Int) : Int := if twoOk W H xs pW pH ys = true then (anyTo W.toNat H.toNat xs ⟨pW.toNat, pH.toNat, ys⟩ 8 : Int) else 0
theorem any_no6 {W H : Int} {xs : List Int} {pW pH : Int} {ys : List Int} (h : goodB W H xs = false ∨ goodB pW pH ys = false) : anyN W H xs pW pH ys = 0 ∧ twoOk W H xs pW pH ys = false := by
  have := two_no h
  simp [anyN, this]
theorem any_yes6 {W H : Int} {xs : List Int} {pW pH : Int} {ys : List Int} (h : goodB W H xs = true) (h' : goodB pW pH ys = true) : anyN W H xs pW pH ys = (anyTo W.toNat H.toNat xs ⟨pW.toNat, pH.toNat, ys⟩ 8 : Int) ∧ twoOk W H xs pW pH ys = true := by simp [anyN, twoOk, h, h']
end Go.Proofs.Ytjfdcmdgpeeabaa
