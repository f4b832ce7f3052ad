/- What the model's l1Read computes, as plain mathematics, and that it is the number whose numeral the text is. No condition. -/
import Derived.Test.YtcingmfeepcpjaaDoorNumMathT
namespace Go.Proofs.YtcingmfeepcpjaaDoor
open Go.Lib

instance (l : List UInt8) : Decidable (Digs l) := by unfold Digs; infer_instance
def readBody (l : List UInt8) : List UInt8 := if 1 < l.length ∧ l.head? = some 45 then l.drop 1 else l
def readNum (l : List UInt8) : Int := if (readBody l).length < l.length then -(dv 0 (readBody l) : Int) else dv 0 (readBody l)
def readM (l : List UInt8) : Option Int :=
  if 1 ≤ (readBody l).length ∧ (readBody l).length ≤ 6 ∧ Digs (readBody l) ∧ itoa (readNum l) = l then some (readNum l) else none

theorem dv_lt (l : List UInt8) (h : Digs l) : dv 0 l < 10 ^ l.length := by
  suffices H : ∀ (n : Nat) (l : List UInt8), l.length = n → Digs l → dv 0 l < 10 ^ l.length from H _ l rfl h
  intro n
  induction n with
  | zero => intro l hl _; have : l = [] := by simpa using hl
            subst this; simp [dv]
  | succ n ih =>
    intro l hl hd
    have hne : l ≠ [] := by intro e; subst e; simp at hl
    have he := List.dropLast_concat_getLast hne
    rw [← he, dv_snoc]
    have h1 := ih l.dropLast (by simp; omega) (fun c hc => hd c (List.dropLast_subset l hc))
    obtain ⟨g1, g2⟩ := hd (l.getLast hne) (List.getLast_mem hne)
    have e2 : (l.dropLast ++ [l.getLast hne]).length = l.dropLast.length + 1 := by simp
    rw [e2, Nat.pow_succ]
    omega

theorem pow6 (k : Nat) (h : k ≤ 6) : 10 ^ k ≤ 1000000 := by
  have := Nat.pow_le_pow_right (show 0 < 10 by omega) h
  omega

theorem dv_lt6 (l : List UInt8) (h : Digs l) (hl : l.length ≤ 6) : dv 0 l < 1000000 := by
  have := dv_lt l h; have := pow6 _ hl; omega

theorem readM_some {l : List UInt8} {n : Int} (h : readM l = some n) : -999999 ≤ n ∧ n ≤ 999999 ∧ itoa n = l := by
  unfold readM at h
  split at h
  · rename_i hc
    injection h with h
    subst h
    have := dv_lt6 _ hc.2.2.1 hc.2.1
    refine ⟨?_, ?_, hc.2.2.2⟩ <;> (unfold readNum; split <;> omega)
  · cases h

theorem readM_of (n : Int) (h0 : -999999 ≤ n) (h1 : n ≤ 999999) : readM (itoa n) = some n := by
  by_cases hn : n < 0
  · obtain ⟨u, rfl⟩ : ∃ u : Nat, n = -(u : Int) := ⟨n.natAbs, by omega⟩
    obtain ⟨a, b, c⟩ := dec_facts u
    have h6 := dec_len6 u (by omega)
    have ei := itoa_neg u (by omega)
    have eb : readBody (itoa (-(u : Int))) = decDigits u := by
      rw [ei]; unfold readBody; rw [if_pos ⟨by simp; omega, by simp⟩]; simp
    have en : readNum (itoa (-(u : Int))) = -(u : Int) := by
      unfold readNum; rw [eb, ei, if_pos (by simp), b]
    unfold readM
    rw [eb, en, if_pos ⟨c, h6, a, rfl⟩]
  · obtain ⟨u, rfl⟩ : ∃ u : Nat, n = (u : Int) := ⟨n.natAbs, by omega⟩
    obtain ⟨a, b, c⟩ := dec_facts u
    have h6 := dec_len6 u (by omega)
    have ei := itoa_nonneg u
    have eb : readBody (itoa (u : Int)) = decDigits u := by
      rw [ei]; unfold readBody; rw [if_neg]
      rintro ⟨h2, h3⟩
      match hl : decDigits u with
      | [] => rw [hl] at h2; simp at h2
      | x :: r =>
        rw [hl] at h3; simp at h3
        have := (a x (by rw [hl]; simp)).1
        rw [h3] at this
        exact absurd this (by decide)
    have en : readNum (itoa (u : Int)) = (u : Int) := by
      unfold readNum; rw [eb, ei, if_neg (by simp), b]
    unfold readM
    rw [eb, en, if_pos ⟨c, h6, a, rfl⟩]

theorem readM_iff (l : List UInt8) (n : Int) : readM l = some n ↔ -999999 ≤ n ∧ n ≤ 999999 ∧ itoa n = l :=
  ⟨readM_some, fun ⟨a, b, c⟩ => by rw [← c]; exact readM_of n a b⟩
end Go.Proofs.YtcingmfeepcpjaaDoor
