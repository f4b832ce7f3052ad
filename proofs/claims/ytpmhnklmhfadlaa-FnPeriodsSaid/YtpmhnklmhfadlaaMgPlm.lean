/- Several texts of this proof in one: PlaceMath, ApartPMath, AnyPMath, RepeatsMath, PairEq. No condition. -/
import Derived.Test.YtpmhnklmhfadlaaMgSeq
import Derived.Test.YtpmhnklmhfadlaaMgMath
import Derived.Test.YtpmhnklmhfadlaaBase
import Derived.ChangeKeysEq
namespace Go.Proofs.Ytpmhnklmhfadlaa
open Go.RowKit

structure PairR where
  f0 : Int
  f1 : Int
deriving DecidableEq
def PairR.ok (s : PairR) : Prop := I64 s.f0 ∧ I64 s.f1
def pairF : Flat PairR := { t := 60, k := 2, enc := fun s => [.int .i64 s.f0, .int .i64 s.f1], ok := PairR.ok, len := fun _ => rfl, one := fun s v h => by simp only [List.mem_cons, List.not_mem_nil, or_false] at h; rcases h with rfl | rfl <;> rfl }
theorem Pair_at {w : World} {B n c j : Nat} {A : Option Addr} {xs : List PairR} (h : RdF pairF w B A n c xs) (hj : j < n) :
    ∃ b off s, A = some ⟨b, off, none⟩ ∧ b < B ∧ s.ok ∧ Hid (xs[j]? = some s) ∧ w.cell? ⟨b, off + j * 2, none⟩ = some (.int .i64 s.f0) ∧ w.cell? ⟨b, off + j * 2 + 1, none⟩ = some (.int .i64 s.f1) := by
  obtain ⟨b, off, s, e, hb, ho, hx, hc⟩ := h.at hj
  have hc' := hc
  unfold Hid at hc'
  exact ⟨b, off, s, e, hb, ho, hx, hc' 0 _ rfl, hc' 1 _ rfl⟩
/-- A motif of pm columns and pk rows occurs at a place of a chart of m columns. -/
def occB (m : Nat) (xs : List Int) (pm pk : Nat) (ys : List Int) (r c : Nat) : Bool := decide (partL m xs r c pk pm = ys)
def rowPl (m : Nat) (xs : List Int) (pm pk : Nat) (ys : List Int) (r t : Nat) : List PairR := ((List.range t).filter fun c => occB m xs pm pk ys r c).map fun c : Nat => ⟨(r : Int), (c : Int)⟩
def placesTo (m : Nat) (xs : List Int) (pm pk : Nat) (ys : List Int) (n : Nat) : List PairR := (List.range n).flatMap fun r => rowPl m xs pm pk ys r (m + 1 - pm)
def placesL (m kk : Nat) (xs : List Int) (pm pk : Nat) (ys : List Int) : List PairR := placesTo m xs pm pk ys (kk + 1 - pk)
section
variable {m kk pm pk r t n : Nat} {xs ys : List Int}
theorem rowPl_zero : rowPl m xs pm pk ys r 0 = [] := rfl
theorem rowPl_yes (h : occB m xs pm pk ys r t = true) : rowPl m xs pm pk ys r (t + 1) = rowPl m xs pm pk ys r t ++ [⟨(r : Int), (t : Int)⟩] := by
  unfold rowPl
  rw [List.range_succ, List.filter_append, List.map_append, List.filter_cons, if_pos h]
  rfl
theorem rowPl_no (h : occB m xs pm pk ys r t = false) : rowPl m xs pm pk ys r (t + 1) = rowPl m xs pm pk ys r t := by
  unfold rowPl
  rw [List.range_succ, List.filter_append, List.map_append, List.filter_cons, if_neg (by rw [h]; decide)]
  simp
theorem rowPl_len : (rowPl m xs pm pk ys r t).length ≤ t := by
  unfold rowPl
  rw [List.length_map]
  exact Nat.le_trans (List.length_filter_le _ _) (by simp)
theorem placesTo_zero : placesTo m xs pm pk ys 0 = [] := rfl
theorem placesTo_succ : placesTo m xs pm pk ys (n + 1) = placesTo m xs pm pk ys n ++ rowPl m xs pm pk ys n (m + 1 - pm) := by
  unfold placesTo
  rw [List.range_succ, List.flatMap_append]
  simp
theorem placesTo_len : (placesTo m xs pm pk ys n).length ≤ n * (m + 1 - pm) := by
  induction n with
  | zero => simp [placesTo]
  | succ n ih =>
    have := rowPl_len (m := m) (xs := xs) (pm := pm) (pk := pk) (ys := ys) (r := n) (t := m + 1 - pm)
    rw [placesTo_succ, List.length_append, Nat.succ_mul]
    omega
theorem placesL_len (m8 : m ≤ 8) (k8 : kk ≤ 8) (p1 : 1 ≤ pm) (p2 : 1 ≤ pk) : (placesL m kk xs pm pk ys).length ≤ 64 := by
  refine Nat.le_trans placesTo_len ?_
  have : (kk + 1 - pk) * (m + 1 - pm) ≤ 8 * 8 := Nat.mul_le_mul (by omega) (by omega)
  omega
/-- All that is found lies in the bounds. -/
theorem placesTo_mem {a : PairR} (h : a ∈ placesTo m xs pm pk ys n) : ∃ r c : Nat, a = ⟨(r : Int), (c : Int)⟩ ∧ r < n ∧ c < m + 1 - pm ∧ occB m xs pm pk ys r c = true := by
  unfold placesTo at h
  obtain ⟨r, hr, h⟩ := List.mem_flatMap.1 h
  unfold rowPl at h
  obtain ⟨c, hc, rfl⟩ := List.mem_map.1 h
  obtain ⟨hc, ho⟩ := List.mem_filter.1 hc
  exact ⟨r, c, rfl, List.mem_range.1 hr, List.mem_range.1 hc, ho⟩
end
theorem ok_small {a b : Nat} (ha : a ≤ 64) (hb : b ≤ 64) : PairR.ok ⟨(a : Int), (b : Int)⟩ := ⟨⟨by simp only; omega, by simp only; omega⟩, ⟨by simp only; omega, by simp only; omega⟩⟩
theorem info_Pair : (Try.prog.info? 60).map (fun i => (i.zero, i.size, i.bytes)) = some (some (.agg #[.int .i64 0, .int .i64 0]), 2, 16) := by kernel_rfl
end Go.Proofs.Ytpmhnklmhfadlaa
namespace Go.Proofs.Ytpmhnklmhfadlaa
open Go.RowKit

/-- Two places of a motif have a knot in common. -/
def nearB (pm pk : Nat) (a t : PairR) : Bool := decide (mostI (a.f0 - t.f0) (-(a.f0 - t.f0)) < (pk : Int)) && decide (mostI (a.f1 - t.f1) (-(a.f1 - t.f1)) < (pm : Int))
def freeB (pm pk : Nat) (a : PairR) (l : List PairR) : Bool := l.all fun t => !nearB pm pk a t
/-- The places that are taken, one after the other. -/
def takenL (pm pk : Nat) : List PairR → List PairR → List PairR
  | acc, [] => acc
  | acc, a :: l => takenL pm pk (if freeB pm pk a acc = true then acc ++ [a] else acc) l
section
variable {pm pk : Nat}
theorem takenL_snoc (l : List PairR) : ∀ (acc : List PairR) (a : PairR), takenL pm pk acc (l ++ [a]) = if freeB pm pk a (takenL pm pk acc l) = true then takenL pm pk acc l ++ [a] else takenL pm pk acc l := by
  induction l with
  | nil => intro acc a; rfl
  | cons x l ih => intro acc a; exact ih _ a
theorem takenL_len (l : List PairR) : ∀ acc : List PairR, (takenL pm pk acc l).length ≤ acc.length + l.length := by
  induction l with
  | nil => intro acc; exact Nat.le_refl _
  | cons x l ih =>
    intro acc
    refine Nat.le_trans (ih _) ?_
    split <;> simp <;> omega
theorem takenL_mem (l : List PairR) : ∀ (acc : List PairR) (a : PairR), a ∈ takenL pm pk acc l → a ∈ acc ∨ a ∈ l := by
  induction l with
  | nil => intro acc a h; exact .inl h
  | cons x l ih =>
    intro acc a h
    rcases ih _ _ h with h | h
    · split at h
      · rcases List.mem_append.1 h with h | h
        · exact .inl h
        · exact .inr (by simp at h; simp [h])
      · exact .inl h
    · exact .inr (List.mem_cons_of_mem _ h)
theorem takenL_step {L : List PairR} {i : Nat} {a : PairR} (h : L[i]? = some a) : takenL pm pk [] (L.take (i + 1)) = if freeB pm pk a (takenL pm pk [] (L.take i)) = true then takenL pm pk [] (L.take i) ++ [a] else takenL pm pk [] (L.take i) := by
  obtain ⟨hi, rfl⟩ := List.getElem?_eq_some_iff.1 h
  rw [List.take_succ_eq_append_getElem hi, takenL_snoc]
theorem freeB_step {T : List PairR} {k : Nat} {a t : PairR} (h : T[k]? = some t) : freeB pm pk a (T.take (k + 1)) = (freeB pm pk a (T.take k) && !nearB pm pk a t) := by
  obtain ⟨hi, rfl⟩ := List.getElem?_eq_some_iff.1 h
  unfold freeB
  rw [List.take_succ_eq_append_getElem hi, List.all_append]
  simp
end
def twoOk (W H : Int) (xs : List Int) (pW pH : Int) (ys : List Int) : Bool := goodB W H xs && goodB pW pH ys
def apartN (W H : Int) (xs : List Int) (pW pH : Int) (ys : List Int) : Int := if twoOk W H xs pW pH ys = true then ((takenL pW.toNat pH.toNat [] (placesL W.toNat H.toNat xs pW.toNat pH.toNat ys)).length : Int) else 0
theorem two_no {W H : Int} {xs : List Int} {pW pH : Int} {ys : List Int} (h : goodB W H xs = false ∨ goodB pW pH ys = false) : twoOk W H xs pW pH ys = false := by rcases h with h | h <;> simp [twoOk, h]
theorem apart_no6 {W H : Int} {xs : List Int} {pW pH : Int} {ys : List Int} (h : goodB W H xs = false ∨ goodB pW pH ys = false) : apartN W H xs pW pH ys = 0 ∧ twoOk W H xs pW pH ys = false := by
  have := two_no h
  simp [apartN, this]
theorem apart_yes6 {W H : Int} {xs : List Int} {pW pH : Int} {ys : List Int} (h : goodB W H xs = true) (h' : goodB pW pH ys = true) : apartN W H xs pW pH ys = ((takenL pW.toNat pH.toNat [] (placesL W.toNat H.toNat xs pW.toNat pH.toNat ys)).length : Int) ∧ twoOk W H xs pW pH ys = true := by simp [apartN, twoOk, h, h']
theorem ret_ib {a a' : Int} {b b' : Bool} (h : a = a') (h' : b = b') : Ending.returned (.tuple #[.int .i64 a, .bool b]) = .returned (.tuple #[.int .i64 a', .bool b']) := by rw [h, h']
end Go.Proofs.Ytpmhnklmhfadlaa
namespace Go.Proofs.Ytpmhnklmhfadlaa
open Go.RowKit

structure ChR where
  W : Int
  H : Int
  A : Option Addr
  n : Nat
  c : Nat
def chartsF : Flat ChR := { t := 26, k := 3, enc := fun s => [.int .i64 s.W, .int .i64 s.H, .slice s.A s.n s.c], ok := fun _ => True, len := fun _ => rfl, one := fun s v h => by simp only [List.mem_cons, List.not_mem_nil, or_false] at h; rcases h with rfl | rfl | rfl <;> rfl }
theorem info_Chart6 : (Try.prog.info? 26).map (fun i => (i.zero, i.size, i.bytes)) = some (some (.agg #[.int .i64 0, .int .i64 0, .slice none 0 0]), 3, 40) := by kernel_rfl
/-- The headers hs are those of charts with slices of their own. -/
def SeenH (w : World) (lo : Nat) (hs : List ChR) (ps : List Pic) : Prop := hs.length = ps.length ∧ ∀ (j : Nat) (h : ChR) (q : Pic), hs[j]? = some h → ps[j]? = some q → h.W = (q.m : Int) ∧ h.H = (q.k : Int) ∧ h.n = q.xs.length ∧ Own w lo (.slice h.A h.n h.c) q.xs
theorem SeenH.nil (w : World) (lo : Nat) : SeenH w lo [] [] := ⟨rfl, fun j h q hj => by simp at hj⟩
theorem SeenH.all {w w' : World} {lo : Nat} {hs : List ChR} {ps : List Pic} (h : SeenH w lo hs ps) (hb : Below w.heap.size w w') : SeenH w' lo hs ps :=
  ⟨h.1, fun j x q hx hq => by obtain ⟨a, b, c, d⟩ := h.2 j x q hx hq; exact ⟨a, b, c, d.all hb⟩⟩
theorem SeenH.mark {w w' : World} {lo lo' n : Nat} {v : Value} {zs : List Value} {hs : List ChR} {ps : List Pic} (h : SeenH w lo hs ps) (hr : w.ownsRow lo' 26 3 v n zs) (hg : w.grownBy w' v.ownBlock) : SeenH w' lo hs ps :=
  ⟨h.1, fun j x q hx hq => by
    obtain ⟨a, b, c, d⟩ := h.2 j x q hx hq
    refine ⟨a, b, c, d.mark hg (fun k k' hk hk' e => ?_)⟩
    subst e
    rcases d.1.2 with ⟨e1, _⟩ | ⟨g, cap, cur, e1, _, hgc, _⟩
    · rw [e1] at hk'; cases hk'
    · rw [e1] at hk'; cases hk'
      rcases hr.2 with ⟨e2, _⟩ | ⟨g2, cap2, cur2, e2, _, hgc2, _⟩
      · rw [e2] at hk; cases hk
      · rw [e2] at hk; cases hk
        rw [hgc] at hgc2
        simp only [Option.some.injEq, Obj.cells.injEq] at hgc2
        exact absurd hgc2.2.1 (by decide)⟩
theorem SeenH.push {w : World} {lo : Nat} {hs : List ChR} {ps : List Pic} {x : ChR} {q : Pic} (h : SeenH w lo hs ps) (h1 : x.W = (q.m : Int)) (h2 : x.H = (q.k : Int)) (h3 : x.n = q.xs.length) (h4 : Own w lo (.slice x.A x.n x.c) q.xs) : SeenH w lo (hs ++ [x]) (ps ++ [q]) := by
  refine ⟨by simp [h.1], fun j y r hy hr => ?_⟩
  have hl := h.1
  by_cases hlt : j < hs.length
  · rw [List.getElem?_append_left hlt] at hy
    rw [List.getElem?_append_left (by omega)] at hr
    exact h.2 j y r hy hr
  · have hj : j - hs.length = 0 := by
      have := (List.getElem?_eq_some_iff.1 hy).1
      simp at this; omega
    rw [List.getElem?_append_right (by omega), hj] at hy
    rw [List.getElem?_append_right (by omega), show j - ps.length = 0 by omega] at hr
    simp at hy hr
    subst hy; subst hr
    exact ⟨h1, h2, h3, h4⟩
/-- Two pictures are the same. -/
def eqPic (q r : Pic) : Bool := decide (r.m = q.m ∧ r.k = q.k ∧ r.xs = q.xs)
/-- The different pictures that a motif becomes by the symmetries below a number. -/
def seenP (p : Pic) : Nat → List Pic
  | 0 => []
  | s + 1 => if ((seenP p s).any fun q => eqPic q (p.move s)) = true then seenP p s else seenP p s ++ [p.move s]
def anyTo (m kk : Nat) (xs : List Int) (p : Pic) (s : Nat) : Nat := ((seenP p s).map fun q => (placesL m kk xs q.m q.k q.xs).length).sum
section
variable {p : Pic} {s : Nat} {m kk : Nat} {xs : List Int}
theorem seenP_yes (h : ((seenP p s).any fun q => eqPic q (p.move s)) = true) : seenP p (s + 1) = seenP p s := by rw [seenP, if_pos h]
theorem seenP_no (h : ((seenP p s).any fun q => eqPic q (p.move s)) = false) : seenP p (s + 1) = seenP p s ++ [p.move s] := by rw [seenP, if_neg (by rw [h]; decide)]
theorem seenP_len : (seenP p s).length ≤ s := by
  induction s with
  | zero => exact Nat.le_refl _
  | succ s ih =>
    rw [seenP]
    split
    · omega
    · rw [List.length_append, List.length_singleton]; omega
theorem seenP_mem {q : Pic} (h : q ∈ seenP p s) : ∃ j, q = p.move j := by
  induction s with
  | zero => simp [seenP] at h
  | succ s ih =>
    rw [seenP] at h
    split at h
    · exact ih h
    · rcases List.mem_append.1 h with h | h
      · exact ih h
      · exact ⟨s, by simpa using h⟩
theorem any_yes (h : ((seenP p s).any fun q => eqPic q (p.move s)) = true) : anyTo m kk xs p (s + 1) = anyTo m kk xs p s := by unfold anyTo; rw [seenP_yes h]
theorem any_no (h : ((seenP p s).any fun q => eqPic q (p.move s)) = false) : anyTo m kk xs p (s + 1) = anyTo m kk xs p s + (placesL m kk xs (p.move s).m (p.move s).k (p.move s).xs).length := by
  unfold anyTo
  rw [seenP_no h, List.map_append, List.sum_append_nat]
  simp
theorem anyTo_le (m8 : m ≤ 8) (k8 : kk ≤ 8) (hp : p.Ok) : anyTo m kk xs p s ≤ 64 * s := by
  induction s with
  | zero => simp [anyTo, seenP]
  | succ s ih =>
    cases hb : ((seenP p s).any fun q => eqPic q (p.move s)) with
    | true => rw [any_yes hb]; omega
    | false =>
      have hm := hp.move s
      have := placesL_len (xs := xs) (ys := (p.move s).xs) m8 k8 hm.1 hm.2.2.1
      rw [any_no hb]
      omega
theorem any_step {ps : List Pic} {k : Nat} {q r : Pic} (h : ps[k]? = some q) : ((ps.take (k + 1)).any fun q => eqPic q r) = (((ps.take k).any fun q => eqPic q r) || eqPic q r) := by
  obtain ⟨hi, rfl⟩ := List.getElem?_eq_some_iff.1 h
  rw [List.take_succ_eq_append_getElem hi, List.any_append]
  simp
end
def anyN (W H : Int) (xs : List Int) (pW pH : Int) (ys : List Int) : Int := if twoOk W H xs pW pH ys = true then (anyTo W.toNat H.toNat xs ⟨pW.toNat, pH.toNat, ys⟩ 8 : Int) else 0
theorem any_no6 {W H : Int} {xs : List Int} {pW pH : Int} {ys : List Int} (h : goodB W H xs = false ∨ goodB pW pH ys = false) : anyN W H xs pW pH ys = 0 ∧ twoOk W H xs pW pH ys = false := by
  have := two_no h
  simp [anyN, this]
theorem any_yes6 {W H : Int} {xs : List Int} {pW pH : Int} {ys : List Int} (h : goodB W H xs = true) (h' : goodB pW pH ys = true) : anyN W H xs pW pH ys = (anyTo W.toNat H.toNat xs ⟨pW.toNat, pH.toNat, ys⟩ 8 : Int) ∧ twoOk W H xs pW pH ys = true := by simp [anyN, twoOk, h, h']
end Go.Proofs.Ytpmhnklmhfadlaa
namespace Go.Proofs.Ytpmhnklmhfadlaa

theorem firstP_min {g : Nat → Bool} {q : Nat} (hq : g q = true) : ∀ n p, p ≤ q → firstP g n p ≤ q
  | 0, _, h => h
  | n + 1, p, h => by
    rw [firstP]
    split
    · exact h
    · rename_i hg
      have : p ≠ q := fun e => hg (e ▸ hq)
      exact firstP_min hq n (p + 1) (by omega)
section
variable {m k a d : Nat} {xs : List Int}
theorem rep_elt {i j : Nat} (hi : i < d * k) (hj : j < a * m) : elt (a * m) (repL m k xs a d) i j = elt m xs (i % k) (j % m) := gridL_get (f := fun i j => elt m xs (i % k) (j % m)) hi hj
theorem divA_rep (m1 : 1 ≤ m) : divA (a * m) (d * k) (repL m k xs a d) ≤ m := by
  refine firstP_min ?_ _ _ m1
  rw [Bool.and_eq_true, decide_eq_true_eq]
  refine ⟨Nat.mul_mod_left _ _, across_iff.2 fun i j hi hj => ?_⟩
  rw [rep_elt hi (by omega), rep_elt hi hj, Nat.add_mod_right]
theorem divD_rep (k1 : 1 ≤ k) : divD (a * m) (d * k) (repL m k xs a d) ≤ k := by
  refine firstP_min ?_ _ _ k1
  rw [Bool.and_eq_true, decide_eq_true_eq]
  refine ⟨Nat.mul_mod_left _ _, down_iff.2 fun i j hi hj => ?_⟩
  rw [rep_elt (by omega) hj, rep_elt hi hj, Nat.add_mod_right]
theorem copy_lt {i t : Nat} (hi : i < d) (ht : t < k) : i * k + t < d * k := by
  have := Nat.mul_le_mul_right k (Nat.succ_le_of_lt hi)
  rw [Nat.succ_mul] at this
  omega
theorem mod_of {i k t : Nat} (ht : t < k) : (i * k + t) % k = t := by rw [Nat.add_comm, Nat.add_mul_mod_self_right, Nat.mod_eq_of_lt ht]
/-- Each copy is a place of the motif. -/
theorem occ_rep {i c : Nat} (hl : xs.length = m * k) (hi : i < d) (hc : c < a) : occB (a * m) (repL m k xs a d) m k xs (i * k) (c * m) = true := by
  unfold occB
  rw [decide_eq_true_eq]
  symm
  show xs = gridL k m fun i' j' => elt (a * m) (repL m k xs a d) (i * k + i') (c * m + j')
  refine gridL_ext (by rw [hl, Nat.mul_comm]) fun i' j' hi' hj' => ?_
  show elt m xs i' j' = elt (a * m) (repL m k xs a d) (i * k + i') (c * m + j')
  rw [rep_elt (copy_lt hi hi') (copy_lt hc hj'), mod_of hi', mod_of hj']
theorem place_mem {mm kk pm pk r c : Nat} {zs ys : List Int} (ho : occB mm zs pm pk ys r c = true) (hr : r < kk + 1 - pk) (hc : c < mm + 1 - pm) : (⟨(r : Int), (c : Int)⟩ : PairR) ∈ placesL mm kk zs pm pk ys := by
  unfold placesL placesTo
  refine List.mem_flatMap.2 ⟨r, List.mem_range.2 hr, ?_⟩
  unfold rowPl
  exact List.mem_map.2 ⟨c, List.mem_filter.2 ⟨List.mem_range.2 hc, ho⟩, rfl⟩
theorem rep_place {i c : Nat} (hl : xs.length = m * k) (hi : i < d) (hc : c < a) : (⟨((i * k : Nat) : Int), ((c * m : Nat) : Int)⟩ : PairR) ∈ placesL (a * m) (d * k) (repL m k xs a d) m k xs := by
  have h1 := Nat.mul_le_mul_right k (Nat.succ_le_of_lt hi)
  have h2 := Nat.mul_le_mul_right m (Nat.succ_le_of_lt hc)
  rw [Nat.succ_mul] at h1 h2
  exact place_mem (occ_rep hl hi hc) (by omega) (by omega)
theorem inj_len : ∀ (N : Nat) (f : Nat → PairR) (L : List PairR), (∀ q, q < N → f q ∈ L) → (∀ q q', q < N → q' < N → f q = f q' → q = q') → N ≤ L.length
  | 0, _, _, _, _ => Nat.zero_le _
  | N + 1, f, L, h1, h2 => by
    have hN := h1 N (Nat.lt_succ_self N)
    have := inj_len N f (L.erase (f N)) (fun q hq => (List.mem_erase_of_ne (fun e => by have := h2 q N (by omega) (by omega) e; omega)).2 (h1 q (by omega))) (fun q q' hq hq' => h2 q q' (by omega) (by omega))
    rw [List.length_erase_of_mem hN] at this
    have := List.length_pos_of_mem hN
    omega
theorem rep_count (m1 : 1 ≤ m) (k1 : 1 ≤ k) (hl : xs.length = m * k) : a * d ≤ (placesL (a * m) (d * k) (repL m k xs a d) m k xs).length := by
  rcases Nat.eq_zero_or_pos a with rfl | ha
  · simp
  refine inj_len (a * d) (fun q => ⟨((q / a * k : Nat) : Int), ((q % a * m : Nat) : Int)⟩) _ (fun q hq => rep_place hl (Nat.div_lt_of_lt_mul hq) (Nat.mod_lt _ ha)) (fun q q' _ _ e => ?_)
  injection e with e1 e2
  have e3 := Nat.eq_of_mul_eq_mul_right k1 (Int.ofNat_inj.1 e1)
  have e4 := Nat.eq_of_mul_eq_mul_right m1 (Int.ofNat_inj.1 e2)
  rw [← Nat.div_add_mod q a, ← Nat.div_add_mod q' a, e3, e4]
theorem mirRep_elt {i j : Nat} (hi : i < k) (hj : j < a * m) : elt (a * m) (mirRepL m k xs a) i j = if j / m % 2 = 1 then elt m xs i (m - 1 - j % m) else elt m xs i (j % m) := by
  have h := gridL_get (h := 1 * k) (k := a * m) (f := fun i j => mirF m xs (i / k) (j / m) (i % k) (j % m)) (show i < 1 * k by omega) hj
  rw [Nat.mod_eq_of_lt hi] at h
  exact h
/-- A mirrored repeat of an even number of copies is its own mirror image. -/
theorem mirRep_same (m1 : 1 ≤ m) (ha : a % 2 = 0) : mirrorL (a * m) k (mirRepL m k xs a) = mirRepL m k xs a := by
  have hlen : (mirRepL m k xs a).length = k * (a * m) := by unfold mirRepL; rw [tileL_len, Nat.one_mul]
  symm
  refine gridL_ext hlen fun i j hi hj => ?_
  show elt (a * m) (mirRepL m k xs a) i j = elt (a * m) (mirRepL m k xs a) i (a * m - 1 - j)
  have hjm := Nat.div_add_mod j m
  have hml := Nat.mod_lt j m1
  have hc : j / m < a := Nat.div_lt_of_lt_mul (by rw [Nat.mul_comm]; exact hj)
  generalize hC : j / m = c at *
  generalize hR : j % m = r at *
  have e : a * m - 1 - j = (a - 1 - c) * m + (m - 1 - r) := by
    obtain ⟨t, rfl⟩ : ∃ t, a = c + 1 + t := ⟨a - 1 - c, by omega⟩
    rw [show c + 1 + t - 1 - c = t by omega, Nat.add_mul, Nat.add_mul, Nat.one_mul, ← hjm, Nat.mul_comm m c]
    omega
  have b := div_block (i := a * m - 1 - j) (k := m) (i0 := a - 1 - c) (by omega) (by omega)
  rw [mirRep_elt hi hj, mirRep_elt hi (by omega), b.1, hC, hR, show (a * m - 1 - j) % m = m - 1 - r by rw [b.2, e]; omega]
  by_cases hp : c % 2 = 1
  · rw [if_pos hp, if_neg (by omega)]
  · rw [if_neg hp, if_pos (by omega), show m - 1 - (m - 1 - r) = r by omega]
end
end Go.Proofs.Ytpmhnklmhfadlaa
namespace Go.Proofs.Ytpmhnklmhfadlaa
open Go.RowKit
theorem pairEq (a b c d : Int) (w : World) : Sem.run Try.prog (Op.equalIn 10000 60 (Value.agg #[.int .i64 a, .int .i64 b]) (Value.agg #[.int .i64 c, .int .i64 d])) w = .ok (a == c && b == d) w := by
  obtain ⟨i0, hi, hz0, hz1, hz2⟩ := info_parts info_int
  have hc : Try.prog.cellsOf 3 = 1 := by kernel_rfl
  have hk : Try.prog.plainKey 3 = true := by kernel_rfl
  have hu := Try.underlying3
  rw [show (10000 : Nat) = 9999 + 1 from rfl, run_equalIn_array w 9999 _ _ Try.underlying60 hi, hc]
  have p0 : ∀ (x y : Int) (w : World), (part 3 #[.int .i64 x, .int .i64 y] 0).run Try.prog w = .ok (.int .i64 x) w := fun x y w => run_part_plain w hk rfl
  have p1 : ∀ (x y : Int) (w : World), (part 3 #[.int .i64 x, .int .i64 y] 1).run Try.prog w = .ok (.int .i64 y) w := fun x y w => run_part_plain w hk rfl
  have q : ∀ (x y : Int) (w : World), (Op.equalIn 9999 3 (.int .i64 x) (.int .i64 y)).run Try.prog w = .ok (x == y) w := fun x y w => run_equalIn_int w 9998 _ _ _ x y hu
  rw [show List.range 2 = [0, 1] from rfl]
  simp only [Op.eqItems, Sem.run_bind, p0, q, Result.andThen_ok, Nat.zero_mul, Nat.one_mul]
  cases h1 : (a == c) <;> cases h2 : (b == d) <;> simp [p1, q, h2]
end Go.Proofs.Ytpmhnklmhfadlaa
