/- A shade out of its text, as plain mathematics: both ways of taking a text apart give the shade whose text it is. No condition. -/
import Derived.Test.YtcingmfeepcpjaaDoorShadeTextT
import Derived.Test.YtcingmfeepcpjaaDoorReadT
import Derived.Test.YtcingmfeepcpjaaDoorSplitMathT
import Derived.Lib.IndexMore
namespace Go.Proofs.YtcingmfeepcpjaaDoor
open Go.RowKit
open Go.Lib (itoa decDigits)

def markW : List UInt8 := [32, 97, 116, 32]
def markD : List UInt8 := [44, 32, 100, 101, 112, 116, 104, 32]
def markF : List UInt8 := [44, 32, 102, 97, 115, 116, 32]
def textL (s : ShadeR) : List UInt8 := itoa s.f0 ++ ([32] ++ (s.f1.data.toList ++ (markW ++ (itoa s.f2 ++ (markD ++ (itoa s.f3 ++ (markF ++ itoa s.f4)))))))
theorem shadeT_toList (s : ShadeR) : (shadeT s).data.toList = textL s := by
  unfold shadeT textL markW markD markF
  simp [numB_toList]
/-- A list cut at its first mark. -/
theorem cut_at (a t r : List UInt8) (m : UInt8) (h : m ∉ a) : Lib.cut (a ++ (m :: t ++ r)) (m :: t) = (a, r, true) := by
  have hi : Lib.index (a ++ (m :: t ++ r)) (m :: t) = (a.length : Int) := by
    refine Lib.index_first (by simp) ?_ (fun j hj => ?_)
    · unfold Lib.occAt
      rw [List.drop_left]
      exact List.isPrefixOf_iff_prefix.2 ⟨r, rfl⟩
    · unfold Lib.occAt
      rw [List.drop_append_of_le_length (by omega), List.drop_eq_getElem_cons hj]
      have hne : (m == a[j]) = false := by
        rw [beq_eq_false_iff_ne]
        intro e
        exact h (e ▸ List.getElem_mem hj)
      show (m == a[j] && List.isPrefixOf t _) = false
      rw [hne]
      rfl
  unfold Lib.cut
  rw [hi, if_pos (by omega), Int.toNat_natCast]
  refine Prod.ext ?_ (Prod.ext ?_ rfl)
  · simp
  · show (a ++ (m :: t ++ r)).drop (a.length + (m :: t).length) = r
    rw [← List.append_assoc, ← List.length_append, List.drop_left]
theorem cut_len (l m : List UInt8) : (Lib.cut l m).1.length ≤ l.length ∧ (Lib.cut l m).2.1.length ≤ l.length := by
  unfold Lib.cut
  split
  · simp
    omega
  · simp
theorem splitGo_at (b : UInt8) : ∀ (a cur r : List UInt8), b ∉ a → splitGo b cur (a ++ b :: r) = (cur ++ a) :: splitGo b [] r := by
  intro a
  induction a with
  | nil => intro cur r _; simp [splitGo]
  | cons c a ih =>
    intro cur r h
    have hc : c ≠ b := fun e => h (by simp [e])
    rw [List.cons_append, splitGo, if_neg hc, ih _ _ (fun hh => h (List.mem_cons_of_mem _ hh))]
    simp
theorem splitGo_all (b : UInt8) : ∀ (a cur : List UInt8), b ∉ a → splitGo b cur a = [cur ++ a] := by
  intro a
  induction a with
  | nil => intro cur _; simp [splitGo]
  | cons c a ih =>
    intro cur h
    have hc : c ≠ b := fun e => h (by simp [e])
    rw [splitGo, if_neg hc, ih _ (fun hh => h (List.mem_cons_of_mem _ hh))]
    simp
/-- The number that a text has, 0 for none. -/
def nOf (l : List UInt8) : Int := (readM l).getD 0
theorem rd_eq (l : List UInt8) : ∃ b, rd l = .returned (.tuple #[.int .i64 (nOf l), .bool b]) := by
  cases h : readM l with
  | none => exact ⟨false, by rw [rd_no l h]; unfold nOf; rw [h]; rfl⟩
  | some n => exact ⟨true, by rw [rd_yes l n h]; unfold nOf; rw [h]; rfl⟩
theorem nOf_itoa {n : Int} (h0 : 0 ≤ n) (h1 : n ≤ 99) : nOf (itoa n) = n := by
  unfold nOf
  rw [readM_of n (by omega) (by omega)]
  rfl
theorem nOf_bd (l : List UInt8) : -999999 ≤ nOf l ∧ nOf l ≤ 999999 := by
  unfold nOf
  cases h : readM l with
  | none => exact ⟨by show (-999999 : Int) ≤ 0; omega, by show (0 : Int) ≤ 999999; omega⟩
  | some n =>
    have := readM_some h
    exact ⟨this.1, this.2.1⟩
theorem itoa_small {n : Int} (h0 : 0 ≤ n) (h1 : n ≤ 99) : (itoa n).length ≤ 2 ∧ 1 ≤ (itoa n).length ∧ (∀ c ∈ itoa n, 48 ≤ c.toNat ∧ c.toNat ≤ 57) := by
  obtain ⟨u, rfl⟩ : ∃ u : Nat, n = (u : Int) := ⟨n.toNat, by omega⟩
  obtain ⟨a, b, c⟩ := dec_facts u
  rw [Lib.itoa_nonneg u]
  exact ⟨dec_len 1 u (by omega), c, a⟩
theorem no_sign {l : List UInt8} {lo hi : Nat} (h : ∀ c ∈ l, lo ≤ c.toNat ∧ c.toNat ≤ hi) (m : UInt8) (hm : m.toNat < lo) : m ∉ l := fun hh => by
  have := (h m hh).1
  omega
theorem word_bytes {s : ByteArray} (h : wordB s = true) : (1 ≤ s.size ∧ s.size ≤ 10) ∧ ∀ c ∈ s.data.toList, 97 ≤ c.toNat ∧ c.toNat ≤ 122 := by
  simp only [wordB, Bool.and_eq_true, decide_eq_true_eq] at h
  refine ⟨h.1, fun c hc => ?_⟩
  have h1 := of_decide_eq_true (show decide (97 ≤ (c.toNat : Int) ∧ (c.toNat : Int) ≤ 122) = true from List.all_eq_true.1 h.2 c hc)
  omega
theorem shadeB_all {s : ShadeR} (h : shadeB s = true) : (1 ≤ s.f0 ∧ s.f0 ≤ 99) ∧ wordB s.f1 = true ∧ (0 ≤ s.f2 ∧ s.f2 ≤ 23) ∧ (0 ≤ s.f3 ∧ s.f3 ≤ 9) ∧ (1 ≤ s.f4 ∧ s.f4 ≤ 8) := by
  simp only [shadeB, Bool.and_eq_true] at h
  obtain ⟨⟨⟨⟨h0, h1⟩, h2⟩, h3⟩, h4⟩ := h
  exact ⟨inB_yes h0, h1, inB_yes h2, inB_yes h3, inB_yes h4⟩
/-- The program's way: four marks, one after the other. -/
def cutA (l : List UInt8) : List UInt8 × List UInt8 × Bool := Lib.cut l [32]
def cutW (l : List UInt8) : List UInt8 × List UInt8 × Bool := Lib.cut (cutA l).2.1 markW
def cutD (l : List UInt8) : List UInt8 × List UInt8 × Bool := Lib.cut (cutW l).2.1 markD
def cutF (l : List UInt8) : List UInt8 × List UInt8 × Bool := Lib.cut (cutD l).2.1 markF
def partsI (l : List UInt8) : ShadeR := ⟨nOf (cutA l).1, ⟨(cutW l).1.toArray⟩, nOf (cutD l).1, nOf (cutF l).1, nOf (cutF l).2.1⟩
theorem partsI_of {s : ShadeR} (h : shadeB s = true) : partsI (textL s) = s := by
  obtain ⟨⟨a0, a1⟩, hw, ⟨c0, c1⟩, ⟨d0, d1⟩, ⟨e0, e1⟩⟩ := shadeB_all h
  obtain ⟨_, hb⟩ := word_bytes hw
  have i0 := (itoa_small (n := s.f0) (by omega) (by omega)).2.2
  have i2 := (itoa_small (n := s.f2) (by omega) (by omega)).2.2
  have i3 := (itoa_small (n := s.f3) (by omega) (by omega)).2.2
  have q0 : cutA (textL s) = (itoa s.f0, s.f1.data.toList ++ (markW ++ (itoa s.f2 ++ (markD ++ (itoa s.f3 ++ (markF ++ itoa s.f4))))), true) := cut_at _ [] _ 32 (no_sign i0 32 (by decide))
  have q1 : cutW (textL s) = (s.f1.data.toList, itoa s.f2 ++ (markD ++ (itoa s.f3 ++ (markF ++ itoa s.f4))), true) := by
    unfold cutW
    rw [q0]
    exact cut_at _ [97, 116, 32] _ 32 (no_sign hb 32 (by decide))
  have q2 : cutD (textL s) = (itoa s.f2, itoa s.f3 ++ (markF ++ itoa s.f4), true) := by
    unfold cutD
    rw [q1]
    exact cut_at _ [32, 100, 101, 112, 116, 104, 32] _ 44 (no_sign i2 44 (by decide))
  have q3 : cutF (textL s) = (itoa s.f3, itoa s.f4, true) := by
    unfold cutF
    rw [q2]
    exact cut_at _ [32, 102, 97, 115, 116, 32] _ 44 (no_sign i3 44 (by decide))
  unfold partsI
  rw [q0, q1, q2, q3]
  simp only
  rw [nOf_itoa (by omega) (by omega), nOf_itoa (by omega) (by omega), nOf_itoa (by omega) (by omega), nOf_itoa (by omega) (by omega)]
/-- The model's way: the words between blanks. -/
def partsS (W : List (List UInt8)) : ShadeR := ⟨nOf (W.getD 0 []), ⟨(W.getD 1 []).toArray⟩, nOf ((W.getD 3 []).take ((W.getD 3 []).length - 1)), nOf ((W.getD 5 []).take ((W.getD 5 []).length - 1)), nOf (W.getD 7 [])⟩
theorem words_of {s : ShadeR} (h : shadeB s = true) : splitL 32 (textL s) = [itoa s.f0, s.f1.data.toList, [97, 116], itoa s.f2 ++ [44], [100, 101, 112, 116, 104], itoa s.f3 ++ [44], [102, 97, 115, 116], itoa s.f4] := by
  obtain ⟨⟨a0, a1⟩, hw, ⟨c0, c1⟩, ⟨d0, d1⟩, ⟨e0, e1⟩⟩ := shadeB_all h
  obtain ⟨_, hb⟩ := word_bytes hw
  have i0 := (itoa_small (n := s.f0) (by omega) (by omega)).2.2
  have i2 := (itoa_small (n := s.f2) (by omega) (by omega)).2.2
  have i3 := (itoa_small (n := s.f3) (by omega) (by omega)).2.2
  have i4 := (itoa_small (n := s.f4) (by omega) (by omega)).2.2
  have n2 : (32 : UInt8) ∉ itoa s.f2 ++ [44] := fun hh => (List.mem_append.1 hh).elim (no_sign i2 32 (by decide)) (by decide)
  have n3 : (32 : UInt8) ∉ itoa s.f3 ++ [44] := fun hh => (List.mem_append.1 hh).elim (no_sign i3 32 (by decide)) (by decide)
  have e : textL s = itoa s.f0 ++ 32 :: (s.f1.data.toList ++ 32 :: ([97, 116] ++ 32 :: ((itoa s.f2 ++ [44]) ++ 32 :: ([100, 101, 112, 116, 104] ++ 32 :: ((itoa s.f3 ++ [44]) ++ 32 :: ([102, 97, 115, 116] ++ 32 :: itoa s.f4)))))) := by
    unfold textL markW markD markF
    simp
  unfold splitL
  rw [e, splitGo_at _ _ _ _ (no_sign i0 32 (by decide)), splitGo_at _ _ _ _ (no_sign hb 32 (by decide)), splitGo_at _ _ _ _ (by decide), splitGo_at _ _ _ _ n2, splitGo_at _ _ _ _ (by decide), splitGo_at _ _ _ _ n3, splitGo_at _ _ _ _ (by decide), splitGo_all _ _ _ (no_sign i4 32 (by decide))]
  rfl
def fits (l : List UInt8) (W : List (List UInt8)) : Prop := l.length ≤ 50 ∧ W.length = 8 ∧ 2 ≤ (W.getD 3 []).length ∧ 2 ≤ (W.getD 5 []).length
theorem fits_of {s : ShadeR} (h : shadeB s = true) : fits (textL s) (splitL 32 (textL s)) ∧ partsS (splitL 32 (textL s)) = s := by
  rw [words_of h]
  obtain ⟨⟨a0, a1⟩, hw, ⟨c0, c1⟩, ⟨d0, d1⟩, ⟨e0, e1⟩⟩ := shadeB_all h
  obtain ⟨⟨_, hs⟩, _⟩ := word_bytes hw
  have i0 := itoa_small (n := s.f0) (by omega) (by omega)
  have i2 := itoa_small (n := s.f2) (by omega) (by omega)
  have i3 := itoa_small (n := s.f3) (by omega) (by omega)
  have i4 := itoa_small (n := s.f4) (by omega) (by omega)
  have hl : s.f1.data.toList.length = s.f1.size := by rw [Array.length_toList]; rfl
  refine ⟨⟨?_, rfl, ?_, ?_⟩, ?_⟩
  · unfold textL markW markD markF
    simp only [List.length_append, List.length_cons, List.length_nil]
    omega
  · show 2 ≤ (itoa s.f2 ++ [44]).length
    rw [List.length_append]
    have := i2.2.1
    simp only [List.length_cons, List.length_nil]
    omega
  · show 2 ≤ (itoa s.f3 ++ [44]).length
    rw [List.length_append]
    have := i3.2.1
    simp only [List.length_cons, List.length_nil]
    omega
  · have t2 : (itoa s.f2 ++ [44]).take ((itoa s.f2 ++ [44]).length - 1) = itoa s.f2 := by simp
    have t3 : (itoa s.f3 ++ [44]).take ((itoa s.f3 ++ [44]).length - 1) = itoa s.f3 := by simp
    unfold partsS
    show ShadeR.mk (nOf (itoa s.f0)) ⟨s.f1.data.toList.toArray⟩ (nOf ((itoa s.f2 ++ [44]).take ((itoa s.f2 ++ [44]).length - 1))) (nOf ((itoa s.f3 ++ [44]).take ((itoa s.f3 ++ [44]).length - 1))) (nOf (itoa s.f4)) = s
    rw [t2, t3, nOf_itoa (by omega) (by omega), nOf_itoa (by omega) (by omega), nOf_itoa (by omega) (by omega), nOf_itoa (by omega) (by omega)]
/-- The shade whose text it is, if there is one. -/
noncomputable def readSh (l : List UInt8) : ShadeR × Bool := if shadeB (partsI l) = true ∧ textL (partsI l) = l then (partsI l, true) else (⟨0, ⟨#[]⟩, 0, 0, 0⟩, false)
theorem readSh_of {x : ShadeR} {l : List UInt8} (hx : shadeB x = true) (hl : textL x = l) : readSh l = (x, true) := by
  subst hl
  unfold readSh
  rw [partsI_of hx, if_pos ⟨hx, rfl⟩]
theorem readSh_no {l : List UInt8} (h : ¬ (shadeB (partsI l) = true ∧ textL (partsI l) = l)) : readSh l = (⟨0, ⟨#[]⟩, 0, 0, 0⟩, false) := if_neg h
theorem readSh_none {l : List UInt8} (h : ¬ (fits l (splitL 32 l) ∧ shadeB (partsS (splitL 32 l)) = true ∧ textL (partsS (splitL 32 l)) = l)) : readSh l = (⟨0, ⟨#[]⟩, 0, 0, 0⟩, false) := by
  refine if_neg fun ⟨h1, h2⟩ => h ?_
  have h3 := fits_of h1
  rw [h2] at h3
  exact ⟨h3.1, by rw [h3.2]; exact h1, by rw [h3.2]; exact h2⟩
end Go.Proofs.YtcingmfeepcpjaaDoor
