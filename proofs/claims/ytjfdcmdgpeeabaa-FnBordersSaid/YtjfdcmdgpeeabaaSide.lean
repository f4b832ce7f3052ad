/- The walk of the program's sideBySide. Condition: at least one and few charts, all with the same height. -/
import Derived.Test.YtjfdcmdgpeeabaaCopyF
import Derived.Test.YtjfdcmdgpeeabaaStepF
import Derived.Test.YtjfdcmdgpeeabaaAnyPMath
import Derived.Test.YtjfdcmdgpeeabaaTileMath
import Derived.Test.YtjfdcmdgpeeabaaKnot
namespace Go.Proofs.Ytjfdcmdgpeeabaa
open Go.RowKit

def widP (ps : List Pic) (i : Nat) : Nat := ((ps.take i).map Pic.m).sum
def rowsTo (ps : List Pic) (r j : Nat) : List Int := (ps.take j).flatMap fun q => rowL q.m r q.xs
def sideTo (ps : List Pic) (r : Nat) : List Int := (List.range r).flatMap fun i => rowsTo ps i ps.length
/-- All charts have one height. -/
def PsOk (kk : Nat) (ps : List Pic) : Prop := ∀ q ∈ ps, q.Ok ∧ q.k = kk
section
variable {ps : List Pic} {kk i r j : Nat} {q : Pic}
theorem widP_succ (h : ps[i]? = some q) : widP ps (i + 1) = widP ps i + q.m := by
  obtain ⟨hi, rfl⟩ := List.getElem?_eq_some_iff.1 h
  unfold widP
  rw [List.take_succ_eq_append_getElem hi, List.map_append, List.sum_append_nat]
  simp
theorem rowsTo_succ (h : ps[j]? = some q) : rowsTo ps r (j + 1) = rowsTo ps r j ++ rowL q.m r q.xs := by
  obtain ⟨hi, rfl⟩ := List.getElem?_eq_some_iff.1 h
  unfold rowsTo
  rw [List.take_succ_eq_append_getElem hi, List.flatMap_append]
  simp
theorem sideTo_succ : sideTo ps (r + 1) = sideTo ps r ++ rowsTo ps r ps.length := by
  unfold sideTo
  rw [List.range_succ, List.flatMap_append]
  simp
theorem widP_le (h : PsOk kk ps) : widP ps i ≤ 8 * i := by
  induction i with
  | zero => simp [widP]
  | succ i ih =>
    by_cases hi : i < ps.length
    · have := (h _ (List.getElem_mem hi)).1.2.1
      rw [widP_succ (List.getElem?_eq_getElem hi)]
      omega
    · have e1 : ps.take (i + 1) = ps.take i := by rw [List.take_of_length_le (show ps.length ≤ i + 1 by omega), List.take_of_length_le (show ps.length ≤ i by omega)]
      unfold widP at ih ⊢
      rw [e1]
      omega
theorem rowsTo_len (h : PsOk kk ps) (hr : r < kk) : (rowsTo ps r j).length = widP ps j := by
  induction j with
  | zero => simp [widP, rowsTo]
  | succ j ih =>
    by_cases hj : j < ps.length
    · have hq := h _ (List.getElem_mem hj)
      rw [rowsTo_succ (List.getElem?_eq_getElem hj), widP_succ (List.getElem?_eq_getElem hj), List.length_append, ih, rowL_len (k := kk) (by rw [hq.1.2.2.2.2, hq.2]) hr]
    · have e1 : ps.take (j + 1) = ps.take j := by rw [List.take_of_length_le (show ps.length ≤ j + 1 by omega), List.take_of_length_le (show ps.length ≤ j by omega)]
      unfold widP rowsTo at ih ⊢
      rw [e1]
      exact ih
theorem sideTo_len (h : PsOk kk ps) (hr : r ≤ kk) : (sideTo ps r).length = r * widP ps ps.length := by
  induction r with
  | zero => simp [sideTo]
  | succ r ih => rw [sideTo_succ, List.length_append, ih (by omega), rowsTo_len h (by omega), Nat.succ_mul]
theorem sideTo_le (h : PsOk kk ps) (hr : r ≤ kk) (hk : kk ≤ 8) (hn : ps.length ≤ 8) : (sideTo ps r).length ≤ 512 := by
  rw [sideTo_len h hr]
  have := widP_le (i := ps.length) h
  have : r * widP ps ps.length ≤ 8 * 64 := Nat.mul_le_mul (by omega) (by omega)
  omega
end
/-- The headers hs are those of charts that can be read below block B. -/
def SeenR (w : World) (B : Nat) (hs : List ChR) (ps : List Pic) : Prop := hs.length = ps.length ∧ ∀ (j : Nat) (h : ChR) (q : Pic), hs[j]? = some h → ps[j]? = some q → h.W = (q.m : Int) ∧ h.H = (q.k : Int) ∧ h.n = q.xs.length ∧ Rd w B h.A h.n h.c q.xs
theorem SeenR.below {w w' : World} {B : Nat} {hs : List ChR} {ps : List Pic} (h : SeenR w B hs ps) (hb : Below B w w') : SeenR w' B hs ps :=
  ⟨h.1, fun j x q hx hq => by obtain ⟨a, b, c, d⟩ := h.2 j x q hx hq; exact ⟨a, b, c, d.below hb (Nat.le_refl _)⟩⟩
theorem SeenR.get {w : World} {B kk j : Nat} {hs : List ChR} {ps : List Pic} {a : ChR} (h : SeenR w B hs ps) (hp : PsOk kk ps) (ha : hs[j]? = some a) :
    ∃ (m : Nat) (xs : List Int) (b off c : Nat), a = ⟨m, kk, some ⟨b, off, none⟩, xs.length, c⟩ ∧ ps[j]? = some ⟨m, kk, xs⟩ ∧ 1 ≤ m ∧ m ≤ 8 ∧ Hid (xs.length = m * kk) ∧ Rd w B (some ⟨b, off, none⟩) xs.length c xs := by
  have hl := h.1
  have hj := (List.getElem?_eq_some_iff.1 ha).1
  have hq : ps[j]? = some (ps[j]'(by omega)) := List.getElem?_eq_getElem (by omega)
  obtain ⟨ho, hk⟩ := hp _ (List.getElem_mem (show j < ps.length by omega))
  obtain ⟨h1, h2, h3, h4⟩ := h.2 j a _ ha hq
  rw [hq]
  generalize ps[j]'(by omega) = q at *
  obtain ⟨W, H, A, n, c⟩ := a
  obtain ⟨m, k, xs⟩ := q
  simp only at h1 h2 h3 h4 hk
  subst hk
  subst h3
  obtain ⟨b, off, rfl, _, _⟩ := h4.cells (by have := ho.len.2; exact this)
  exact ⟨m, xs, b, off, c, by rw [h1, h2], rfl, ho.1, ho.2.1, ho.2.2.2.2, h4⟩
theorem Ch_at {w : World} {B n c j : Nat} {A : Option Addr} {hs : List ChR} (h : RdF chartsF w B A n c hs) (hj : j < n) :
    ∃ b off s, A = some ⟨b, off, none⟩ ∧ b < B ∧ Hid (hs[j]? = some s) ∧ w.cell? ⟨b, off + j * 3, none⟩ = some (.int .i64 s.W) ∧ w.cell? ⟨b, off + j * 3 + 1, none⟩ = some (.int .i64 s.H) ∧ w.cell? ⟨b, off + j * 3 + 2, none⟩ = some (.slice s.A s.n s.c) := by
  obtain ⟨b, off, s, e, hb, _, hx, hc⟩ := h.at hj
  have hc' := hc
  unfold Hid at hc'
  exact ⟨b, off, s, e, hb, hx, hc' 0 _ rfl, hc' 1 _ rfl, hc' 2 _ rfl⟩
theorem rowOf_s (m k r b off n c : Nat) (w : World) (h : n = m * k) (hc : n ≤ c) (hcm : c ≤ maxLen) (hm : 1 ≤ m) (hm8 : m ≤ 8) (hr : r < k) (hk8 : k ≤ 8) :
    Calls Try.prog 46 #[chartV m k (.slice (some ⟨b, off, none⟩) n c), .int .i64 (r : Int)] w (Out w (.slice (some ⟨b, off + r * m, none⟩) m (c - r * m))) := by
  have := rowOf_any m k r b off c (List.replicate n 0) w (by rw [List.length_replicate]; exact h) (by rw [List.length_replicate]; exact hc) hcm hm hm8 hr hk8
  rwa [List.length_replicate] at this
def hIf (i kk : Nat) : Int := if i = 0 then 0 else kk
theorem hIf_pos {i kk : Nat} (h : 1 ≤ i) : hIf i kk = kk := if_neg (by omega)
end Go.Proofs.Ytjfdcmdgpeeabaa
