/- Texts joined by a byte, as plain mathematics. No condition. -/
import Derived.Test.YtdfijojkkmpllaaStands
namespace Go.Proofs.Ytdfijojkkmpllaa

def partL' (ps : List ByteArray) (k : Nat) : List UInt8 := (ps.getD k ⟨#[]⟩).data.toList
/-- What the k-th text is joined to. -/
def joinPre (b : UInt8) (k : Nat) (l : List UInt8) : List UInt8 := if 0 < k then l ++ [b] else l
def joinL (b : UInt8) (ps : List ByteArray) : Nat → List UInt8
  | 0 => []
  | k + 1 => joinPre b k (joinL b ps k) ++ partL' ps k
def joinOk (b : UInt8) (ps : List ByteArray) : Nat → Bool
  | 0 => true
  | k + 1 => joinOk b ps k && !HasB (partL' ps k) b && decide ((joinL b ps (k + 1)).length ≤ 4000)
theorem joinOk_le {b : UInt8} {ps : List ByteArray} {k n : Nat} (h : k ≤ n) (hn : joinOk b ps n = true) : joinOk b ps k = true := by
  induction n with
  | zero => obtain rfl : k = 0 := by omega
            rfl
  | succ n ih =>
    by_cases e : k = n + 1
    · subst e; exact hn
    · rw [joinOk, Bool.and_eq_true, Bool.and_eq_true] at hn
      exact ih (by omega) hn.1.1
theorem joinOk_no {b : UInt8} {ps : List ByteArray} {k n : Nat} (h : k < n) (hk : joinOk b ps (k + 1) = false) : joinOk b ps n = false := by
  cases e : joinOk b ps n with
  | false => rfl
  | true => rw [joinOk_le (by omega) e] at hk; cases hk
theorem joinOk_len {b : UInt8} {ps : List ByteArray} {k : Nat} (h : joinOk b ps k = true) : (joinL b ps k).length ≤ 4000 := by
  cases k with
  | zero => exact Nat.zero_le _
  | succ k => rw [joinOk, Bool.and_eq_true, Bool.and_eq_true] at h; simpa using h.2
theorem joinOk_step {b : UInt8} {ps : List ByteArray} {k : Nat} (h : joinOk b ps k = true) (hh : HasB (partL' ps k) b = false) (hl : (joinL b ps (k + 1)).length ≤ 4000) : joinOk b ps (k + 1) = true := by
  rw [joinOk, h, hh]; simpa using hl
theorem joinOk_has {b : UInt8} {ps : List ByteArray} {k : Nat} (hh : HasB (partL' ps k) b = true) : joinOk b ps (k + 1) = false := by
  rw [joinOk, hh]; simp
theorem joinOk_long {b : UInt8} {ps : List ByteArray} {k : Nat} (hl : 4000 < (joinL b ps (k + 1)).length) : joinOk b ps (k + 1) = false := by
  rw [joinOk, decide_eq_false (by omega)]; simp
theorem joinPre_len (b : UInt8) (k : Nat) (l : List UInt8) : (joinPre b k l).length ≤ l.length + 1 := by
  unfold joinPre; split <;> simp
theorem part_at {ps : List ByteArray} {k : Nat} {s : ByteArray} (h : ps[k]? = some s) : partL' ps k = s.data.toList := by
  unfold partL'; rw [List.getD_eq_getElem?_getD, h]; rfl
theorem joinL_succ (b : UInt8) (ps : List ByteArray) (k : Nat) : joinL b ps (k + 1) = joinPre b k (joinL b ps k) ++ partL' ps k := rfl
/-- Whether the texts join, and to what: a sign of one byte that stands in none of them, one text or more, 4000 bytes at most. -/
def joins (ps : List ByteArray) (sep : ByteArray) : Bool := if h : sep.size = 1 then !ps.isEmpty && joinOk (sep[0]'(by omega)) ps ps.length else false
def joined (ps : List ByteArray) (sep : ByteArray) : ByteArray := if h : sep.size = 1 then (if joins ps sep = true then ⟨(joinL (sep[0]'(by omega)) ps ps.length).toArray⟩ else ⟨#[]⟩) else ⟨#[]⟩
theorem joins_sign {ps : List ByteArray} {sep : ByteArray} (h : ¬ sep.size = 1) : joins ps sep = false ∧ joined ps sep = ⟨#[]⟩ := by
  unfold joined joins; rw [dif_neg h, dif_neg h]; exact ⟨rfl, rfl⟩
theorem joins_none {sep : ByteArray} : joins [] sep = false ∧ joined [] sep = ⟨#[]⟩ := by
  have : joins [] sep = false := by unfold joins; split <;> rfl
  refine ⟨this, ?_⟩
  unfold joined; rw [this]; split <;> rfl
theorem joins_no {ps : List ByteArray} {sep : ByteArray} (h : sep.size = 1) (hn : joinOk (sep[0]'(by omega)) ps ps.length = false) : joins ps sep = false ∧ joined ps sep = ⟨#[]⟩ := by
  have : joins ps sep = false := by unfold joins; rw [dif_pos h, hn]; simp
  refine ⟨this, ?_⟩
  unfold joined; rw [this]; split <;> rfl
theorem joins_yes {ps : List ByteArray} {sep : ByteArray} (h : sep.size = 1) (hp : 0 < ps.length) (hn : joinOk (sep[0]'(by omega)) ps ps.length = true) :
    joins ps sep = true ∧ joined ps sep = ⟨(joinL (sep[0]'(by omega)) ps ps.length).toArray⟩ := by
  have : joins ps sep = true := by
    unfold joins; rw [dif_pos h, hn]
    cases ps with
    | nil => simp at hp
    | cons => rfl
  refine ⟨this, ?_⟩
  unfold joined; rw [dif_pos h, if_pos this]
end Go.Proofs.Ytdfijojkkmpllaa
