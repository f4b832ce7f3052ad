/- Several texts of this proof in one: MirImpl, FnRepMath, Far3, PeriodsMath, FnPerMath. No condition. -/
import Derived.Test.YtpmhnklmhfadlaaRepImpl
import Derived.Test.YtpmhnklmhfadlaaMirrored
import Derived.Test.YtpmhnklmhfadlaaMgPlm
import Derived.Test.YtpmhnklmhfadlaaMgPj
import Derived.Test.YtpmhnklmhfadlaaMgPlaces
import Derived.Test.YtpmhnklmhfadlaaCopy
import Derived.Test.YtpmhnklmhfadlaaMgMath
import Derived.Test.YtpmhnklmhfadlaaMgDraws
import Derived.BigQuiet
namespace Go.Proofs.Ytpmhnklmhfadlaa
open Go.RowKit

def mirOk (W H : Int) (xs : List Int) (a : Int) : Bool := goodB W H xs && isSideB a
def mirAll (W H : Int) (xs : List Int) (a : Int) : Bool := mirOk W H xs a && isSideB (a * W)
def mirX (W H : Int) (xs : List Int) (a : Int) : List Int := if mirAll W H xs a = true then mirRepL W.toNat H.toNat xs a.toNat else []
theorem mirX_len (W H : Int) (xs : List Int) (a : Int) : (mirX W H xs a).length ≤ 1048576 := by
  unfold mirX
  split
  · rename_i h
    simp only [mirAll, mirOk, Bool.and_eq_true] at h
    obtain ⟨⟨hg, ha⟩, h1⟩ := h
    have hW := goodB_yes hg
    have := isSideB_yes ha
    have := tile_le (d := 1) (k := H.toNat) (f := mirF W.toNat xs) (nat_side h1 (by omega) (by omega)) (by omega)
    unfold mirRepL
    omega
  · simp
theorem mir_no {W H : Int} {xs : List Int} {a : Int} (h : ¬ mirOk W H xs a = true) : goodB W H xs = false ∨ (goodB W H xs = true ∧ isSideB a = false) := by
  unfold mirOk at h
  revert h
  generalize goodB W H xs = x
  generalize isSideB a = y
  cases x <;> cases y <;> simp
theorem mir_yes {W H : Int} {xs : List Int} {a : Int} (h : mirOk W H xs a = true) : goodB W H xs = true ∧ isSideB a = true := by simpa [mirOk] using h
/-- Every second header below i is that of a mirrored chart of the call's own. -/
def SeenM (w : World) (lo m k b off c : Nat) (xs : List Int) (a i : Nat) (hs : List ChR) : Prop :=
  hs.length = a ∧ ∀ j, j < a → (¬ (j % 2 = 1 ∧ j < i) → hs[j]? = some ⟨m, k, some ⟨b, off, none⟩, xs.length, c⟩) ∧ ((j % 2 = 1 ∧ j < i) → ∃ A c', hs[j]? = some ⟨m, k, A, (mirrorL m k xs).length, c'⟩ ∧ Own w lo (.slice A (mirrorL m k xs).length c') (mirrorL m k xs))
section
variable {w w' : World} {lo m k b off c a i B : Nat} {xs : List Int} {hs : List ChR}
theorem SeenM.start (hs : List ChR) (h : hs.length = a) (he : ∀ j, j < a → hs[j]? = some ⟨m, k, some ⟨b, off, none⟩, xs.length, c⟩) : SeenM w lo m k b off c xs a 1 hs :=
  ⟨h, fun j hj => ⟨fun _ => he j hj, fun hh => by omega⟩⟩
theorem SeenM.all (h : SeenM w lo m k b off c xs a i hs) (hb : Below w.heap.size w w') : SeenM w' lo m k b off c xs a i hs :=
  ⟨h.1, fun j hj => ⟨(h.2 j hj).1, fun hh => by
    obtain ⟨A, c', e, ho⟩ := (h.2 j hj).2 hh
    exact ⟨A, c', e, ho.all hb⟩⟩⟩
theorem SeenM.mark {lo' n : Nat} {v : Value} {zs : List Value} (h : SeenM w lo m k b off c xs a i hs) (hr : w.ownsRow lo' 26 3 v n zs) (hg : w.grownBy w' v.ownBlock) : SeenM w' lo m k b off c xs a i hs :=
  ⟨h.1, fun j hj => ⟨(h.2 j hj).1, fun hh => by
    obtain ⟨A, c', e, d⟩ := (h.2 j hj).2 hh
    refine ⟨A, c', e, d.mark hg (fun k k' hk hk' e => ?_)⟩
    subst e
    rcases d.1.2 with ⟨e1, _⟩ | ⟨g, cap, cur, e1, _, hgc, _⟩
    · rw [e1] at hk'; cases hk'
    · rw [e1] at hk'; cases hk'
      rcases hr.2 with ⟨e2, _⟩ | ⟨g2, cap2, cur2, e2, _, hgc2, _⟩
      · rw [e2] at hk; cases hk
      · rw [e2] at hk; cases hk
        rw [hgc] at hgc2
        simp only [Option.some.injEq, Obj.cells.injEq] at hgc2
        exact absurd hgc2.2.1 (by decide)⟩⟩
theorem SeenM.step {A : Option Addr} {c' : Nat} (h : SeenM w lo m k b off c xs a i hs) (hi : i < a) (ho : i % 2 = 1) (hd : Own w lo (.slice A (mirrorL m k xs).length c') (mirrorL m k xs)) :
    SeenM w lo m k b off c xs a (i + 2) (hs.set i ⟨m, k, A, (mirrorL m k xs).length, c'⟩) := by
  refine ⟨by rw [List.length_set]; exact h.1, fun j hj => ?_⟩
  have hl := h.1
  by_cases e : j = i
  · subst e
    refine ⟨fun hn => absurd ⟨ho, by omega⟩ hn, fun _ => ⟨A, c', ?_, hd⟩⟩
    rw [List.getElem?_set_self (by omega)]
  · rw [List.getElem?_set_ne (by omega)]
    refine ⟨fun hn => (h.2 j hj).1 (fun hh => hn ⟨hh.1, by omega⟩), fun hh => (h.2 j hj).2 ⟨hh.1, by omega⟩⟩
theorem SeenM.seen (h : SeenM w lo m k b off c xs a i hs) (hi : a ≤ i) (hR : Rd w B (some ⟨b, off, none⟩) xs.length c xs) (hB : B ≤ w.heap.size) :
    SeenR w w.heap.size hs (picsF m k a fun i => if i % 2 = 1 then mirrorL m k xs else xs) := by
  refine ⟨by rw [picsF_len]; exact h.1, fun j x q hx hq => ?_⟩
  have hj : j < a := by have := (List.getElem?_eq_some_iff.1 hq).1; rwa [picsF_len] at this
  rw [picsF_at hj] at hq
  simp only [Option.some.injEq] at hq
  subst hq
  by_cases e : j % 2 = 1
  · obtain ⟨A, c', e', ho⟩ := (h.2 j hj).2 ⟨e, by omega⟩
    rw [hx] at e'
    simp only [Option.some.injEq] at e'
    subst e'
    simp only [if_pos e]
    exact ⟨by simp, by simp, by simp, ho.rd⟩
  · have e' := (h.2 j hj).1 (fun hh => e hh.1)
    rw [hx] at e'
    simp only [Option.some.injEq] at e'
    subst e'
    simp only [if_neg e]
    exact ⟨by simp, by simp, by simp, hR.more hB⟩
end
end Go.Proofs.Ytpmhnklmhfadlaa
namespace Go.Proofs.Ytpmhnklmhfadlaa
open Go.RowKit

theorem taken_most6 {pm pk : Nat} (l : List PairR) : (takenL pm pk [] l).length ≤ l.length := by
  have := takenL_len (pm := pm) (pk := pk) l []
  simpa using this
/-- A repeated motif: its places and its smallest motif. -/
structure RepFacts (W H : Int) (xs : List Int) (a d : Int) (zs : List Int) (P : List PairR) : Prop where
  bdW : 1 ≤ W ∧ W ≤ 8
  bdH : 1 ≤ H ∧ H ≤ 8
  bda : 1 ≤ a ∧ a ≤ 8
  bdd : 1 ≤ d ∧ d ≤ 8
  good : goodB (a * W) (d * H) zs = true
  two : twoOk (a * W) (d * H) zs W H xs = true
  smW : ((divA (a * W).toNat (d * H).toNat zs : Nat) : Int) ≤ W
  smH : ((divD (a * W).toNat (d * H).toNat zs : Nat) : Int) ≤ H
  apart : apartN (a * W) (d * H) zs W H xs ≤ (P.length : Int)
  many : a * d ≤ (P.length : Int)
  all : ∀ i c : Int, 0 ≤ i → i < d → 0 ≤ c → c < a → (⟨i * H, c * W⟩ : PairR) ∈ P
theorem rep_facts {W H : Int} {xs : List Int} {a d : Int} (h : repAll W H xs a d = true) : RepFacts W H xs a d (repX W H xs a d) (placesX (a * W) (d * H) (repX W H xs a d) W H xs) := by
  have h0 := h
  unfold repAll at h
  rw [Bool.and_eq_true, Bool.and_eq_true] at h
  obtain ⟨⟨hok, hs1⟩, hs2⟩ := h
  obtain ⟨hg, ha, hd⟩ := rep_yes hok
  have hX : repX W H xs a d = repL W.toNat H.toNat xs a.toNat d.toNat := by unfold repX; rw [if_pos h0]
  obtain ⟨m, k, rfl, rfl, m1, m8, k1, k8, hl, _, _, hc⟩ := good_nat hg
  obtain ⟨a, rfl, a1, a8⟩ := isSideB_nat ha
  obtain ⟨d, rfl, d1, d8⟩ := isSideB_nat hd
  simp only [Int.toNat_natCast] at hX
  rw [hX]
  have e1 : ((a : Int) * (m : Int)) = ((a * m : Nat) : Int) := (Int.natCast_mul a m).symm
  have e2 : ((d : Int) * (k : Int)) = ((d * k : Nat) : Int) := (Int.natCast_mul d k).symm
  rw [e1] at hs1
  rw [e2] at hs2
  have hgood : goodB ((a : Int) * (m : Int)) ((d : Int) * (k : Int)) (repL m k xs a d) = true := by
    rw [e1, e2]
    have := good_grid (h := d * k) (k := a * m) (f := fun i j => repF m xs (i / k) (j / m) (i % k) (j % m)) (fun i j => elt_color hc)
    rw [show repL m k xs a d = gridL (d * k) (a * m) (fun i j => repF m xs (i / k) (j / m) (i % k) (j % m)) from rfl, this, hs1, hs2]
    rfl
  have htwo : twoOk ((a : Int) * (m : Int)) ((d : Int) * (k : Int)) (repL m k xs a d) m k xs = true := by unfold twoOk; rw [hgood, hg]; rfl
  have hP : placesX ((a : Int) * (m : Int)) ((d : Int) * (k : Int)) (repL m k xs a d) m k xs = placesL (a * m) (d * k) (repL m k xs a d) m k xs := by
    unfold placesX
    rw [if_pos htwo, e1, e2]
    simp only [Int.toNat_natCast]
  rw [hP]
  refine ⟨⟨by omega, by omega⟩, ⟨by omega, by omega⟩, ⟨by omega, by omega⟩, ⟨by omega, by omega⟩, hgood, htwo, ?_, ?_, ?_, ?_, ?_⟩
  · rw [e1, e2]
    simp only [Int.toNat_natCast]
    exact Int.ofNat_le.2 (divA_rep m1)
  · rw [e1, e2]
    simp only [Int.toNat_natCast]
    exact Int.ofNat_le.2 (divD_rep k1)
  · unfold apartN
    rw [if_pos htwo, e1, e2]
    simp only [Int.toNat_natCast]
    exact Int.ofNat_le.2 (taken_most6 _)
  · rw [← Int.natCast_mul]
    exact Int.ofNat_le.2 (rep_count m1 k1 hl.out)
  · intro i c hi0 hi hc0 hc1
    obtain ⟨i, rfl⟩ := Int.eq_ofNat_of_zero_le hi0
    obtain ⟨c, rfl⟩ := Int.eq_ofNat_of_zero_le hc0
    have := rep_place (a := a) (d := d) (i := i) (c := c) hl.out (by omega) (by omega)
    rwa [Int.natCast_mul, Int.natCast_mul] at this
/-- A mirrored repeat of an even number of copies is its own mirror image. -/
theorem mir_facts {W H : Int} {xs : List Int} {a : Int} (h : mirAll W H xs a = true) (he : a.tmod 2 = 0) : hasB (a * W) H (mirX W H xs a) 4 = true ∧ moveOk (a * W) H (mirX W H xs a) 4 = true := by
  have h0 := h
  unfold mirAll at h
  rw [Bool.and_eq_true] at h
  obtain ⟨hok, hs1⟩ := h
  obtain ⟨hg, ha⟩ := mir_yes hok
  have hX : mirX W H xs a = mirRepL W.toNat H.toNat xs a.toNat := by unfold mirX; rw [if_pos h0]
  obtain ⟨m, k, rfl, rfl, m1, m8, k1, k8, hl, _, _, hc⟩ := good_nat hg
  obtain ⟨a, rfl, a1, a8⟩ := isSideB_nat ha
  simp only [Int.toNat_natCast] at hX
  rw [hX]
  have e1 : ((a : Int) * (m : Int)) = ((a * m : Nat) : Int) := (Int.natCast_mul a m).symm
  rw [e1] at hs1
  have hgood : goodB ((a : Int) * (m : Int)) (k : Int) (mirRepL m k xs a) = true := by
    rw [e1]
    have := good_grid (h := 1 * k) (k := a * m) (f := fun i j => mirF m xs (i / k) (j / m) (i % k) (j % m)) (fun i j => by unfold mirF; split <;> exact elt_color hc)
    rw [show mirRepL m k xs a = gridL (1 * k) (a * m) (fun i j => mirF m xs (i / k) (j / m) (i % k) (j % m)) from rfl]
    rw [Nat.one_mul] at this ⊢
    rw [this, hs1]
    simp [isSideB]
    omega
  have hev : a % 2 = 0 := by
    rw [Int.tmod_eq_emod_of_nonneg (by omega)] at he
    omega
  have hmv : moveOk ((a : Int) * (m : Int)) (k : Int) (mirRepL m k xs a) 4 = true := by
    unfold moveOk
    rw [hgood]
    decide
  refine ⟨?_, hmv⟩
  unfold hasB
  rw [hmv, e1, Bool.true_and]
  unfold Pic.same
  rw [decide_eq_true_eq]
  simp only [Int.toNat_natCast]
  show (Pic.move ⟨a * m, k, mirRepL m k xs a⟩ 4).m = a * m ∧ (Pic.move ⟨a * m, k, mirRepL m k xs a⟩ 4).k = k ∧ (Pic.move ⟨a * m, k, mirRepL m k xs a⟩ 4).xs = mirRepL m k xs a
  refine ⟨rfl, rfl, ?_⟩
  show mirrorL (a * m) k (mirRepL m k xs a) = mirRepL m k xs a
  exact mirRep_same m1 hev
/-- Two places are the same. -/
def eqP (s t : PairR) : Bool := s.f0 == t.f0 && s.f1 == t.f1
def seenT (P : List PairR) (t : PairR) (p : Nat) : Bool := (P.take p).any (fun s => eqP s t)
theorem seenT_zero (P : List PairR) (t : PairR) : seenT P t 0 = false := by simp [seenT]
theorem seenT_succ {P : List PairR} {t s : PairR} {p : Nat} (h : P[p]? = some s) : seenT P t (p + 1) = (seenT P t p || eqP s t) := by
  obtain ⟨hi, rfl⟩ := List.getElem?_eq_some_iff.1 h
  unfold seenT
  rw [List.take_succ_eq_append_getElem hi, List.any_append]
  simp
theorem seenT_all {P : List PairR} {t : PairR} (h : t ∈ P) {p : Nat} (hp : P.length ≤ p) : seenT P t p = true := by
  unfold seenT
  rw [List.take_of_length_le hp, List.any_eq_true]
  exact ⟨t, h, by simp [eqP]⟩
end Go.Proofs.Ytpmhnklmhfadlaa
namespace Go.Proofs.Ytpmhnklmhfadlaa
open Go.RowKit

section
variable {w w0 : World} {p q B lo n c' : Nat} {t : TypeId} {a b c a' b' v : Value} {A : Option Addr} {cs : Array Value} {xs : List Int}
theorem Blk.put3b {c'' : Value} (h : Blk w p t #[a', b', c'']) : Blk (((w.setCell ⟨p, 0, none⟩ a).setCell ⟨p, 1, none⟩ b).setCell ⟨p, 2, none⟩ c) p t #[a, b, c] := by
  have := ((h.set_ 0 a).set_ 1 b).set_ 2 c
  simpa using this
theorem Blk.far3b (h : Blk w q t cs) (hp : q ≠ p) : Blk (((w.setCell ⟨p, 0, none⟩ a).setCell ⟨p, 1, none⟩ b).setCell ⟨p, 2, none⟩ c) q t cs :=
  ((h.far (a := ⟨p, 0, none⟩) hp _).far (a := ⟨p, 1, none⟩) hp _).far (a := ⟨p, 2, none⟩) hp _
theorem Own.far3b (h : Own w lo v xs) (hp : v.ownBlock ≠ some p) : Own (((w.setCell ⟨p, 0, none⟩ a).setCell ⟨p, 1, none⟩ b).setCell ⟨p, 2, none⟩ c) lo v xs :=
  ((h.far (a := ⟨p, 0, none⟩) hp a).far (a := ⟨p, 1, none⟩) hp b).far (a := ⟨p, 2, none⟩) hp c
theorem Rd.keep3 (h : Rd w B A n c' xs) (hp : B ≤ p) : Rd (((w.setCell ⟨p, 0, none⟩ a).setCell ⟨p, 1, none⟩ b).setCell ⟨p, 2, none⟩ c) B A n c' xs :=
  h.keep fun b' o hb => by
    rw [World.cell?_setCell_other _ _ _ _ (by first | (simp; done) | (simp; omega)), World.cell?_setCell_other _ _ _ _ (by first | (simp; done) | (simp; omega)), World.cell?_setCell_other _ _ _ _ (by first | (simp; done) | (simp; omega))]
end
theorem below_far3 {w0 w : World} {p B : Nat} {a b c : Value} (h : Below B w0 w) (hp : B ≤ p) : Below B w0 (((w.setCell ⟨p, 0, none⟩ a).setCell ⟨p, 1, none⟩ b).setCell ⟨p, 2, none⟩ c) :=
  ((h.setCell (p := ⟨p, 0, none⟩) hp a).setCell (p := ⟨p, 1, none⟩) hp b).setCell (p := ⟨p, 2, none⟩) hp c
/-- A cell of an older block. -/
def Cel (w : World) (b o : Nat) (v : Value) : Prop := b < w.heap.size ∧ w.cell? ⟨b, o, none⟩ = some v
section
variable {w w' : World} {b' o p : Nat} {v a b c : Value}
theorem Cel.all (h : Cel w b' o v) (hb : Below w.heap.size w w') : Cel w' b' o v := ⟨Nat.lt_of_lt_of_le h.1 hb.size, (hb.cell (p := ⟨b', o, none⟩) h.1).trans h.2⟩
theorem Cel.drew (h : Cel w b' o v) : Cel w.drew b' o v := h
theorem Cel.far3b (h : Cel w b' o v) (hp : b' ≠ p) : Cel (((w.setCell ⟨p, 0, none⟩ a).setCell ⟨p, 1, none⟩ b).setCell ⟨p, 2, none⟩ c) b' o v :=
  ⟨by simpa using h.1, by
    rw [World.cell?_setCell_other _ _ _ _ (by first | (simp; done) | (simp; omega)), World.cell?_setCell_other _ _ _ _ (by first | (simp; done) | (simp; omega)), World.cell?_setCell_other _ _ _ _ (by first | (simp; done) | (simp; omega))]
    exact h.2⟩
theorem Cel.alloc (h : Cel w b' o v) (ob : Obj) : Cel (w.alloc ob) b' o v := h.all ((Below.refl _ _).alloc (Nat.le_refl _) ob)
end
end Go.Proofs.Ytpmhnklmhfadlaa
namespace Go.Proofs.Ytpmhnklmhfadlaa

theorem firstP_mono {g h : Nat → Bool} (hgh : ∀ q, h q = true → g q = true) : ∀ n p, firstP g n p ≤ firstP h n p
  | 0, _ => Nat.le_refl _
  | n + 1, p => by
    rw [firstP, firstP]
    by_cases hg : g p = true
    · rw [if_pos hg]
      split
      · exact Nat.le_refl _
      · exact Nat.le_trans (Nat.le_succ p) (firstP_ge n (p + 1))
    · rw [if_neg hg, if_neg (fun hh => hg (hgh p hh))]
      exact firstP_mono hgh n (p + 1)
theorem perA_le (m k : Nat) (xs : List Int) : perA m k xs ≤ divA m k xs := firstP_mono (fun q hq => by simp only [Bool.and_eq_true] at hq; exact hq.2) _ _
theorem perD_le (m k : Nat) (xs : List Int) : perD m k xs ≤ divD m k xs := firstP_mono (fun q hq => by simp only [Bool.and_eq_true] at hq; exact hq.2) _ _
theorem divD_ok {m k : Nat} {xs : List Int} (hk : 1 ≤ k) : k % divD m k xs = 0 ∧ downB m k xs (divD m k xs) = true := by
  have h1 := firstP_ok (g := fun p => decide (k % p = 0) && downB m k xs p) (k - 1) 1 (by rw [show 1 + (k - 1) = k by omega]; simp [down_all])
  simp only [Bool.and_eq_true, decide_eq_true_eq] at h1
  exact h1
theorem across_mod {m k p i : Nat} {xs : List Int} (h : acrossB m k xs p = true) (hp : 1 ≤ p) (hi : i < k) : ∀ j, j < m → elt m xs i j = elt m xs i (j % p) := by
  intro j
  induction j using Nat.strongRecOn with
  | ind j ih =>
    intro hj
    by_cases hlt : j < p
    · rw [Nat.mod_eq_of_lt hlt]
    · have e := across_iff.1 h i (j - p) hi (by omega)
      rw [show j - p + p = j by omega] at e
      rw [← e, ih (j - p) (by omega) (by omega), ← Nat.mod_eq_sub_mod (show j ≥ p by omega)]
theorem down_mod {m k p j : Nat} {xs : List Int} (h : downB m k xs p = true) (hp : 1 ≤ p) (hj : j < m) : ∀ i, i < k → elt m xs i j = elt m xs (i % p) j := by
  intro i
  induction i using Nat.strongRecOn with
  | ind i ih =>
    intro hi
    by_cases hlt : i < p
    · rw [Nat.mod_eq_of_lt hlt]
    · have e := down_iff.1 h (i - p) j (by omega) hj
      rw [show i - p + p = i by omega] at e
      rw [← e, ih (i - p) (by omega) (by omega), ← Nat.mod_eq_sub_mod (show i ≥ p by omega)]
theorem mot_back {m k : Nat} {xs : List Int} (m1 : 1 ≤ m) (k1 : 1 ≤ k) (hl : xs.length = m * k) :
    repL (divA m k xs) (divD m k xs) (partL m xs 0 0 (divD m k xs) (divA m k xs)) (m / divA m k xs) (k / divD m k xs) = xs := by
  obtain ⟨a1, am, az, ha⟩ := divA_bd (m := m) (k := k) (xs := xs) m1
  obtain ⟨d1, dk⟩ := divD_bd (m := m) (k := k) (xs := xs) k1
  obtain ⟨dz, hd⟩ := divD_ok (m := m) (k := k) (xs := xs) k1
  generalize divA m k xs = da at *
  generalize divD m k xs = dd at *
  symm
  unfold repL tileL
  rw [Nat.div_mul_cancel (Nat.dvd_of_mod_eq_zero az), Nat.div_mul_cancel (Nat.dvd_of_mod_eq_zero dz)]
  refine gridL_ext (by rw [hl, Nat.mul_comm]) fun i j hi hj => ?_
  show elt m xs i j = elt da (partL m xs 0 0 dd da) (i % dd) (j % da)
  have h1 := Nat.mod_lt i d1
  have h2 := Nat.mod_lt j a1
  rw [part_elt h1 h2, Nat.zero_add, Nat.zero_add, across_mod ha a1 hi j hj, down_mod hd d1 (by omega) i hi]
theorem quoN (a q : Nat) : Int.tdiv (a : Int) (q : Int) = ((a / q : Nat) : Int) := by
  rw [Int.tdiv_eq_ediv_of_nonneg (by omega)]; omega
/-- A smallest motif, repeated, is the whole chart. -/
theorem mot_rep {m k : Nat} {xs : List Int} (m1 : 1 ≤ m) (m8 : m ≤ 8) (k1 : 1 ≤ k) (k8 : k ≤ 8) (hl : xs.length = m * k) (hcol : ∀ x ∈ xs, 0 ≤ x ∧ x < 6) :
    repAll (divA m k xs) (divD m k xs) (partL m xs 0 0 (divD m k xs) (divA m k xs)) ((m / divA m k xs : Nat) : Int) ((k / divD m k xs : Nat) : Int) = true ∧
    repX (divA m k xs) (divD m k xs) (partL m xs 0 0 (divD m k xs) (divA m k xs)) ((m / divA m k xs : Nat) : Int) ((k / divD m k xs : Nat) : Int) = xs := by
  have hb := mot_back (xs := xs) m1 k1 hl
  obtain ⟨a1, am, az, ha⟩ := divA_bd (m := m) (k := k) (xs := xs) m1
  obtain ⟨d1, dk⟩ := divD_bd (m := m) (k := k) (xs := xs) k1
  obtain ⟨dz, hd⟩ := divD_ok (m := m) (k := k) (xs := xs) k1
  generalize divA m k xs = da at *
  generalize divD m k xs = dd at *
  have e1 := Nat.div_mul_cancel (Nat.dvd_of_mod_eq_zero az)
  have e2 := Nat.div_mul_cancel (Nat.dvd_of_mod_eq_zero dz)
  have q1 : 1 ≤ m / da := Nat.div_pos am a1
  have q2 : 1 ≤ k / dd := Nat.div_pos dk d1
  have q3 : m / da ≤ m := Nat.div_le_self _ _
  have q4 : k / dd ≤ k := Nat.div_le_self _ _
  have side : ∀ n : Nat, 1 ≤ n → n ≤ 8 → isSideB (n : Int) = true := fun n h1 h2 => by unfold isSideB; rw [decide_eq_true_eq]; omega
  have hg : goodB (da : Int) (dd : Int) (partL m xs 0 0 dd da) = true := by
    have := good_grid (h := dd) (k := da) (f := fun i j => elt m xs (0 + i) (0 + j)) fun i j => elt_color hcol
    rw [side da a1 (by omega), side dd d1 (by omega)] at this
    exact this
  have hall : repAll (da : Int) (dd : Int) (partL m xs 0 0 dd da) ((m / da : Nat) : Int) ((k / dd : Nat) : Int) = true := by
    unfold repAll repOk
    rw [hg, side _ q1 (by omega), side _ q2 (by omega), ← Int.natCast_mul, ← Int.natCast_mul, e1, e2, side m m1 m8, side k k1 k8]
    rfl
  refine ⟨hall, ?_⟩
  have : repX (da : Int) (dd : Int) (partL m xs 0 0 dd da) ((m / da : Nat) : Int) ((k / dd : Nat) : Int) = _ := if_pos hall
  rw [this]
  simp only [Int.toNat_natCast]
  exact hb
theorem taken_grow {pm pk : Nat} : ∀ (l acc : List PairR), acc.length ≤ (takenL pm pk acc l).length
  | [], _ => Nat.le_refl _
  | a :: l, acc => by
    rw [takenL]
    refine Nat.le_trans ?_ (taken_grow l _)
    split
    · rw [List.length_append]; omega
    · exact Nat.le_refl _
/-- Some place is taken just if there is one. -/
theorem taken_some {pm pk : Nat} (l : List PairR) : 0 < (takenL pm pk [] l).length ↔ 0 < l.length := by
  cases l with
  | nil => simp [takenL]
  | cons a l =>
    refine ⟨fun _ => by simp, fun _ => ?_⟩
    rw [takenL, if_pos (by simp [freeB])]
    exact taken_grow l ([] ++ [a])
theorem taken_most {pm pk : Nat} (l : List PairR) : (takenL pm pk [] l).length ≤ l.length := by
  have := takenL_len (pm := pm) (pk := pk) l []
  simpa using this
theorem any_mono {m kk : Nat} {xs : List Int} {p : Pic} : ∀ s, (placesL m kk xs p.m p.k p.xs).length ≤ anyTo m kk xs p (s + 1)
  | 0 => by
    have h0 : ((seenP p 0).any fun q => eqPic q (p.move 0)) = false := rfl
    rw [any_no h0]
    show _ ≤ _ + (placesL m kk xs p.m p.k p.xs).length
    omega
  | s + 1 => by
    refine Nat.le_trans (any_mono s) ?_
    cases hb : ((seenP p (s + 1)).any fun q => eqPic q (p.move (s + 1))) with
    | true => rw [any_yes hb]; exact Nat.le_refl _
    | false => rw [any_no hb]; omega
end Go.Proofs.Ytpmhnklmhfadlaa
namespace Go.Proofs.Ytpmhnklmhfadlaa
open Go.RowKit

structure MotFacts (W H : Int) (xs sx : List Int) (sW sH qa qd pA pD : Int) : Prop where
  a1 : 1 ≤ sW ∧ sW ≤ 8
  d1 : 1 ≤ sH ∧ sH ≤ 8
  w1 : 1 ≤ W ∧ W ≤ 8
  h1 : 1 ≤ H ∧ H ≤ 8
  ta : Int.tdiv W sW = qa
  td : Int.tdiv H sH = qd
  qa8 : 0 ≤ qa ∧ qa ≤ 8
  qd8 : 0 ≤ qd ∧ qd ≤ 8
  all : repAll sW sH sx qa qd = true
  rep : repX sW sH sx qa qd = xs
  mulA : qa * sW = W
  mulD : qd * sH = H
  lA : pA ≤ sW
  lD : pD ≤ sH
theorem mot_facts {W H : Int} {xs : List Int} (h : goodB W H xs = true) : ∃ qa qd : Int, MotFacts W H xs (motX W H xs) (divA W.toNat H.toNat xs) (divD W.toNat H.toNat xs) qa qd (perAN W H xs) (perDN W H xs) := by
  have h0 := h
  obtain ⟨m, k, rfl, rfl, m1, m8, k1, k8, hl, _, _, hc⟩ := good_nat h
  obtain ⟨hr, hx⟩ := mot_rep m1 m8 k1 k8 hl.out hc
  obtain ⟨a1, am, az, _⟩ := divA_bd (m := m) (k := k) (xs := xs) m1
  obtain ⟨d1, dk⟩ := divD_bd (m := m) (k := k) (xs := xs) k1
  obtain ⟨dz, _⟩ := divD_ok (m := m) (k := k) (xs := xs) k1
  have pa := perA_le m k xs
  have pd := perD_le m k xs
  have eX : motX (m : Int) (k : Int) xs = partL m xs 0 0 (divD m k xs) (divA m k xs) := by
    unfold motX
    rw [if_pos h0]
    simp only [Int.toNat_natCast]
  have eA : perAN (m : Int) (k : Int) xs = (perA m k xs : Int) := by
    unfold perAN
    rw [if_pos h0]
    simp only [Int.toNat_natCast]
  have eD : perDN (m : Int) (k : Int) xs = (perD m k xs : Int) := by
    unfold perDN
    rw [if_pos h0]
    simp only [Int.toNat_natCast]
  simp only [Int.toNat_natCast]
  rw [← eX] at hr hx
  have q1 : m / divA m k xs ≤ m := Nat.div_le_self _ _
  have q2 : k / divD m k xs ≤ k := Nat.div_le_self _ _
  have e1 : m / divA m k xs * divA m k xs = m := Nat.div_mul_cancel (Nat.dvd_of_mod_eq_zero az)
  have e2 : k / divD m k xs * divD m k xs = k := Nat.div_mul_cancel (Nat.dvd_of_mod_eq_zero dz)
  refine ⟨((m / divA m k xs : Nat) : Int), ((k / divD m k xs : Nat) : Int), ⟨by omega, by omega⟩, ⟨by omega, by omega⟩, ⟨by omega, by omega⟩, ⟨by omega, by omega⟩, quoN _ _, quoN _ _, ⟨Int.natCast_nonneg _, by omega⟩, ⟨Int.natCast_nonneg _, by omega⟩, hr, hx, ?_, ?_, ?_, ?_⟩
  · rw [← Int.natCast_mul, e1]
  · rw [← Int.natCast_mul, e2]
  · rw [eA]; omega
  · rw [eD]; omega
theorem place_facts (W H : Int) (xs : List Int) (pW pH : Int) (ys : List Int) : apartN W H xs pW pH ys ≤ ((placesX W H xs pW pH ys).length : Int) ∧ 0 ≤ apartN W H xs pW pH ys ∧
    (twoOk W H xs pW pH ys = true → (0 < apartN W H xs pW pH ys ↔ 0 < (placesX W H xs pW pH ys).length) ∧ ((placesX W H xs pW pH ys).length : Int) ≤ anyN W H xs pW pH ys) := by
  unfold apartN placesX anyN
  cases h : twoOk W H xs pW pH ys with
  | false => simp
  | true =>
    simp only [if_true]
    have h1 := taken_most (pm := pW.toNat) (pk := pH.toNat) (placesL W.toNat H.toNat xs pW.toNat pH.toNat ys)
    have h2 := taken_some (pm := pW.toNat) (pk := pH.toNat) (placesL W.toNat H.toNat xs pW.toNat pH.toNat ys)
    have h3 := any_mono (m := W.toNat) (kk := H.toNat) (xs := xs) (p := ⟨pW.toNat, pH.toNat, ys⟩) 7
    refine ⟨by omega, by omega, fun _ => ⟨by omega, ?_⟩⟩
    exact Int.ofNat_le.2 h3
set_option maxRecDepth 100000 in
set_option maxHeartbeats 2000000 in
theorem vPairs_same (A A' : Option Addr) (n c n' c' B B' : Nat) (xs : List PairR) (w : World) (h : RdF pairF w B A n c xs) (h' : RdF pairF w B' A' n' c' xs) (hB : B ≤ w.heap.size) (hB' : B' ≤ w.heap.size) :
    Calls Try.prog 17 #[.slice A n c, .slice A' n' c'] w (Out w (.bool true)) := by
  have hmx := h.len_lt
  obtain rfl := h.len
  obtain rfl := h'.len
  go_enter Try.func17, Try.ntmps17
  go_wp2
  go_loopw [5] (fun i wr => ∃ j : Nat, j ≤ xs.length ∧ i = .int .i64 j ∧ Below w.heap.size w wr) (fun i _ => xs.length - (intOf i).toNat)
  case atStart => exact ⟨0, Nat.zero_le _, rfl, Below.refl _ _⟩
  case round =>
    obtain ⟨j, hj, rfl, HB⟩ := hrel
    by_cases hlt : j < xs.length
    · obtain ⟨b, off, s, rfl, _, _, HX, hc0, hc1⟩ := Pair_at (h.all HB hB) hlt
      obtain ⟨b', off', s', rfl, _, _, HX', hd0, hd1⟩ := Pair_at (h'.all HB hB') hlt
      obtain rfl : s = s' := Option.some.inj (HX.out.symm.trans HX'.out)
      have hk0 : (0 : Int) ≤ (j : Int) := by omega
      have hkn : (j : Int) < (xs.length : Int) := by omega
      have hpe := fun w => pairEq s.f0 s.f1 s.f0 s.f1 w
      simp only [beq_self_eq_true, Bool.and_self] at hpe
      go_wp2
      go_quiet (fail)
      clear hpe
      go_wp2
      go_roundw
      case rel => exact ⟨j + 1, by omega, by go_num, belowN HB _⟩
      case measure => simp [intOf]; omega
    · obtain rfl : j = xs.length := by omega
      go_wp2
      go_ret
      exact ⟨rfl, HB⟩
end Go.Proofs.Ytpmhnklmhfadlaa
