/- Decimal numerals as plain mathematics: a numeral's digits, what they spell, and that Go's Atoi reads the numerals of numbers of at most six digits back. No condition. -/
import Derived.WalkKit
import Derived.Lib.AtoiAll
import Derived.Lib.ItoaNum
import Derived.Lib.ItoaMem
namespace Go.Proofs.YtcingmfeepcpjaaDoor
open Go.Lib

def dv (acc : Nat) (l : List UInt8) : Nat := l.foldl (fun a c => 10 * a + (c.toNat - 48)) acc
def Digs (l : List UInt8) : Prop := ∀ c ∈ l, 48 ≤ c.toNat ∧ c.toNat ≤ 57

theorem dv_snoc (acc : Nat) (l : List UInt8) (c : UInt8) : dv acc (l ++ [c]) = 10 * dv acc l + (c.toNat - 48) := by
  unfold dv; rw [List.foldl_append]; rfl
theorem dv_ge (l : List UInt8) : ∀ acc, acc ≤ dv acc l := by
  induction l with
  | nil => intro acc; exact Nat.le_refl _
  | cons c l ih => intro acc; have := ih (10 * acc + (c.toNat - 48)); simp only [dv, List.foldl_cons] at this ⊢; omega

theorem dig_toNat (d : Nat) (h : d < 10) : (UInt8.ofNat (48 + d)).toNat = 48 + d := by
  rw [UInt8.toNat_ofNat']; omega

theorem dec_facts : ∀ u : Nat, Digs (decDigits u) ∧ dv 0 (decDigits u) = u ∧ 1 ≤ (decDigits u).length := by
  intro u
  induction u using Nat.strongRecOn with
  | ind u ih =>
    rw [decDigits]
    split
    · rename_i h
      refine ⟨?_, ?_, by simp⟩
      · intro c hc; rw [List.mem_singleton] at hc; subst hc; rw [dig_toNat u h]; omega
      · simp only [dv, List.foldl_cons, List.foldl_nil]; rw [dig_toNat u h]; omega
    · rename_i h
      obtain ⟨a, b, c⟩ := ih (u / 10) (by omega)
      refine ⟨?_, ?_, by simp⟩
      · intro x hx
        rcases List.mem_append.1 hx with hx | hx
        · exact a x hx
        · rw [List.mem_singleton] at hx; subst hx; rw [dig_toNat _ (by omega)]; omega
      · rw [dv_snoc, b, dig_toNat _ (by omega)]; omega

theorem dec_len (k : Nat) : ∀ u : Nat, u < 10 ^ (k + 1) → (decDigits u).length ≤ k + 1 := by
  induction k with
  | zero => intro u hu; rw [decDigits, dif_pos (by simpa using hu)]; simp
  | succ k ih =>
    intro u hu
    rw [decDigits]
    split
    · simp
    · have := ih (u / 10) (by rw [Nat.pow_succ] at hu; omega)
      simp; omega

theorem Lib_dec_len7 (u : Nat) (h : u < 10000000) : (decDigits u).length ≤ 7 := dec_len 6 u (by omega)
theorem dec_len6 (u : Nat) (h : u ≤ 999999) : (decDigits u).length ≤ 6 := dec_len 5 u (by omega)

theorem parse_dv : ∀ (l : List UInt8) (acc : Nat), Digs l → dv acc l < 10000000 → parseUint10 acc l = .ok (dv acc l) := by
  intro l
  induction l with
  | nil => intro acc _ _; rfl
  | cons c l ih =>
    intro acc hd hv
    obtain ⟨h1, h2⟩ := hd c (by simp)
    have hge := dv_ge l (10 * acc + (c.toNat - 48))
    have hv' : dv (10 * acc + (c.toNat - 48)) l < 10000000 := hv
    rw [parseUint10, if_pos ⟨h1, h2⟩, if_neg (by omega), if_neg (by omega)]
    rw [show acc * 10 + (c.toNat - 48) = 10 * acc + (c.toNat - 48) by omega]
    exact ih _ (fun x hx => hd x (by simp [hx])) hv'

theorem atoi_pos (u : Nat) (h : u ≤ 999999) : atoiAll (decDigits u) = .ok (u : Int) := by
  obtain ⟨a, b, c⟩ := dec_facts u
  have hp := parse_dv (decDigits u) 0 a (by omega)
  rw [b] at hp
  have hne : decDigits u ≠ [] := by intro e; rw [e] at c; simp at c
  match hl : decDigits u with
  | [] => exact absurd hl hne
  | x :: r =>
    have hx := a x (by rw [hl]; simp)
    rw [hl] at hp
    simp only [atoiAll]
    rw [if_neg (by omega), parseMag, if_neg (by simp), hp]
    simp only []
    rw [if_neg (by omega), if_neg (by omega), if_neg (by omega)]

theorem atoi_neg (u : Nat) (h1 : 1 ≤ u) (h : u ≤ 999999) : atoiAll (45 :: decDigits u) = .ok (-(u : Int)) := by
  obtain ⟨a, b, c⟩ := dec_facts u
  have hp := parse_dv (decDigits u) 0 a (by omega)
  rw [b] at hp
  have hne : decDigits u ≠ [] := by intro e; rw [e] at c; simp at c
  have e45 : (45 : UInt8).toNat = 45 := rfl
  simp only [atoiAll]
  rw [if_pos (by simp [e45]), parseMag, if_neg hne, hp]
  simp only [e45]
  rw [if_neg (by omega), if_neg (by omega), if_pos trivial]

theorem atoi_itoa (n : Int) (h0 : -999999 ≤ n) (h1 : n ≤ 999999) : atoiAll (itoa n) = .ok n := by
  unfold itoa
  split
  · rename_i h
    rw [atoi_neg _ (by omega) (by omega)]
    congr 1; omega
  · rw [atoi_pos _ (by omega)]
    congr 1; omega

/-- The text of a number, as a string's bytes. -/
def numB (n : Int) : ByteArray := ⟨(itoa n).toArray⟩
theorem numB_toList (n : Int) : (numB n).data.toList = itoa n := by simp [numB]
theorem numB_inj {a b : Int} (ha : -999999 ≤ a ∧ a ≤ 999999) (hb : -999999 ≤ b ∧ b ≤ 999999) (h : numB a = numB b) : a = b := by
  have e : itoa a = itoa b := by rw [← numB_toList, ← numB_toList, h]
  have x := atoi_itoa a ha.1 ha.2
  rw [e, atoi_itoa b hb.1 hb.2] at x
  injection x with x; exact x.symm
theorem itoa_len (n : Int) (h0 : -999999 ≤ n) (h1 : n ≤ 999999) : (itoa n).length ≤ 7 := by
  unfold itoa
  split
  · have := dec_len6 n.natAbs (by omega); simp; omega
  · have := dec_len6 n.toNat (by omega); omega
theorem numB_size (n : Int) (h0 : -999999 ≤ n) (h1 : n ≤ 999999) : (numB n).size ≤ 7 := by
  have : (numB n).size = (itoa n).length := by simp [numB, ByteArray.size]
  rw [this]; exact itoa_len n h0 h1
end Go.Proofs.YtcingmfeepcpjaaDoor
