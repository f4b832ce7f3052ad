/- Plain mathematics: carpets and short colors; the greatest share. -/
import Derived.Test.YtndoianocmekmaaShort
import Derived.Test.YtndoianocmekmaaCarpMath
import Derived.Test.YtndoianocmekmaaShare
namespace Go.Proofs.Ytndoianocmekmaa
open Go.RowKit

theorem topN_hit (f : Nat → Bool) : ∀ N, topN f N ≠ 0 → f (topN f N) = true
  | 0, h => absurd rfl h
  | N + 1, h => by
    unfold topN at h ⊢
    split
    · assumption
    · rename_i hn
      rw [if_neg hn] at h
      exact topN_hit f N h
theorem topN_zero (f : Nat → Bool) : ∀ N, topN f N = 0 → ∀ m, 1 ≤ m → m ≤ N → f m = false
  | 0, _, m, h1, h2 => by omega
  | N + 1, h, m, h1, h2 => by
    unfold topN at h
    split at h
    · omega
    · rename_i hn
      by_cases e : m = N + 1
      · subst e; exact not_false hn
      · exact topN_zero f N h m h1 (by omega)
theorem carp_short {W H : Int} {xs : List Int} {s : YarnR} {ss : List Int} (h : carpB W H xs s ss = true) : (0 < carpX W H xs s ss → shortX W H xs s ss = []) ∧ (¬ 0 < carpX W H xs s ss → shortX W H xs s ss ≠ []) := by
  have hs : shortB W H xs s ss = true := h
  obtain ⟨hb, hk⟩ := (by simpa [carpB] using h : byB W H xs s = true ∧ stockB ss = true)
  obtain ⟨hgc, hgy⟩ := (by simpa [byB] using hb : goodB W H xs = true ∧ goodY s = true)
  have h64 := (good_bd hgc).1
  have hl := countL_len xs
  have hz : ∀ i, i < 6 → 0 ≤ (countL xs).getD i 0 := fun i hi => (countL_bd h64 hi).1
  rw [show carpX W H xs s ss = (topN (fitsB (countL xs) ss s) 1000 : Nat) from if_pos h, show shortX W H xs s ss = _ from if_pos hs]
  have hle : ∀ i, i < 6 → (lensX W H xs s).getD i 0 = lenY s ((countL xs).getD i 0) := fun i hi => by
    rw [show lensX W H xs s = (countL xs).map (lenY s) from if_pos hb, getD_at (by rw [List.length_map]; omega), List.getElem_map, ← getD_at (by omega)]
  have hiff : shortL (lensX W H xs s) ss 6 = [] ↔ fitsN (countL xs) ss s 1 6 := by
    unfold shortL fitsN
    rw [List.map_eq_nil_iff, List.filter_eq_nil_iff]
    refine ⟨fun hh i hi => ?_, fun hh i hi => ?_⟩
    · have := hh i (List.mem_range.2 hi)
      rw [hle i hi] at this
      simp only [decide_eq_true_eq] at this
      simp only [Int.natCast_one, Int.one_mul]
      omega
    · have hi6 := List.mem_range.1 hi
      have := hh i hi6
      rw [hle i hi6]
      simp only [Int.natCast_one, Int.one_mul] at this
      simp only [decide_eq_true_eq]
      omega
  refine ⟨fun hp => hiff.2 ?_, fun hp hn => ?_⟩
  · have hne : topN (fitsB (countL xs) ss s) 1000 ≠ 0 := by omega
    have := topN_hit _ 1000 hne
    exact fits_mono hgy hz (Nat.le_refl _) (by omega) (of_decide_eq_true this)
  · have h0 : topN (fitsB (countL xs) ss s) 1000 = 0 := by omega
    have := topN_zero _ 1000 h0 1 (Nat.le_refl _) (by omega)
    exact absurd (decide_eq_true (hiff.1 hn)) (by rw [show decide (fitsN (countL xs) ss s 1 6) = fitsB (countL xs) ss s 1 from rfl, this]; simp)
theorem first_of {P : Nat → Prop} [DecidablePred P] : ∀ n, (∃ j, j < n ∧ P j) → ∃ b, b < n ∧ P b ∧ ∀ i, i < b → ¬ P i
  | 0, ⟨j, hj, _⟩ => by omega
  | n + 1, ⟨j, hj, hp⟩ => by
    by_cases h : ∃ j, j < n ∧ P j
    · obtain ⟨b, hb, h1, h2⟩ := first_of n h
      exact ⟨b, by omega, h1, h2⟩
    · have : j = n := by
        rcases Nat.lt_or_ge j n with hlt | hge
        · exact absurd ⟨j, hlt, hp⟩ h
        · omega
      subst this
      exact ⟨j, by omega, hp, fun i hi hpi => h ⟨i, hi, hpi⟩⟩
theorem hungry_at {l : List Int} (hl : l.length = 6) : ∃ b : Nat, b < 6 ∧ Lib.idxOf l (Lib.maxOf l) = b ∧ ∀ i, i < 6 → l.getD i 0 ≤ l.getD b 0 := by
  have hp := maxOf_prop l l.length (by omega) (Nat.le_refl _)
  rw [List.take_length, hl] at hp
  obtain ⟨h1, h2⟩ := hp
  obtain ⟨b, hb, e, hf⟩ := first_of (P := fun i => l.getD i 0 = Lib.maxOf l) 6 h2
  have := Lib.idxOf_hit l l.length b (Lib.maxOf l) (by omega) (Nat.le_refl _) e hf
  rw [List.take_length] at this
  exact ⟨b, hb, this, fun i hi => by rw [e]; exact h1 i hi⟩
theorem share_le {c m N g1 g2 : Nat} (h1 : 0 < g1) (h2 : 0 < g2) (a1 : g1 ∣ c) (a2 : g1 ∣ N) (b1 : g2 ∣ m) (b2 : g2 ∣ N) (h : c ≤ m) : (c / g1) * (N / g2) ≤ (m / g2) * (N / g1) := by
  obtain ⟨c', rfl⟩ := a1
  obtain ⟨n1, e1⟩ := a2
  obtain ⟨m', rfl⟩ := b1
  obtain ⟨n2, e2⟩ := b2
  have q1 : N / g1 = n1 := by rw [e1]; exact Nat.mul_div_cancel_left _ h1
  have q2 : N / g2 = n2 := by rw [e2]; exact Nat.mul_div_cancel_left _ h2
  rw [Nat.mul_div_cancel_left _ h1, Nat.mul_div_cancel_left _ h2, q1, q2]
  have hm := Nat.mul_le_mul_right N h
  refine Nat.le_of_mul_le_mul_left (c := g1 * g2) ?_ (Nat.mul_pos h1 h2)
  have l1 : g1 * g2 * (c' * n2) = g1 * c' * N := by rw [e2]; ac_rfl
  have l2 : g1 * g2 * (m' * n1) = g2 * m' * N := by rw [e1]; ac_rfl
  rw [l1, l2]
  exact hm
theorem shares_le {W H : Int} {xs : List Int} (h : goodB W H xs = true) : ∃ b : Nat, b < 6 ∧ hungryX W H xs = b ∧ ∀ k : Nat, k < 6 →
    shareB W H xs k = true ∧ (0 ≤ shareP W H xs k ∧ shareP W H xs k ≤ 64) ∧ (0 ≤ shareQ W H xs k ∧ shareQ W H xs k ≤ 64) ∧ ¬ shareP W H xs b * shareQ W H xs k < shareP W H xs k * shareQ W H xs b := by
  obtain ⟨h64, hl1, hcol⟩ := good_bd h
  obtain ⟨b, hb, e, hm⟩ := hungry_at (countL_len xs)
  have hsb : ∀ k : Nat, k < 6 → shareB W H xs k = true := fun k hk => by
    have : isColorB (k : Int) = true := decide_eq_true (by omega)
    simp [shareB, h, this]
  refine ⟨b, hb, by rw [show hungryX W H xs = _ from if_pos h, e], fun k hk => ?_⟩
  have hcb := cnt_le xs b
  have hck := cnt_le xs k
  have hkb : cnt xs k ≤ cnt xs b := by
    have := hm k hk
    rw [countL_get _ _ hk, countL_get _ _ hb] at this
    have e1 : howMany xs k = (cnt xs k : Nat) := rfl
    have e2 : howMany xs b = (cnt xs b : Nat) := rfl
    omega
  have g1 := Nat.gcd_pos_of_pos_left (cnt xs k) hl1
  have g2 := Nat.gcd_pos_of_pos_left (cnt xs b) hl1
  have hle := share_le g1 g2 (Nat.gcd_dvd_right xs.length (cnt xs k)) (Nat.gcd_dvd_left xs.length (cnt xs k)) (Nat.gcd_dvd_right xs.length (cnt xs b)) (Nat.gcd_dvd_left xs.length (cnt xs b)) hkb
  have d1 := Nat.div_le_self (cnt xs k) (Nat.gcd xs.length (cnt xs k))
  have d2 := Nat.div_le_self xs.length (Nat.gcd xs.length (cnt xs k))
  have p1 : shareP W H xs k = ((cnt xs k / Nat.gcd xs.length (cnt xs k) : Nat) : Int) := if_pos (hsb k hk)
  have p2 : shareQ W H xs k = ((xs.length / Nat.gcd xs.length (cnt xs k) : Nat) : Int) := if_pos (hsb k hk)
  have p3 : shareP W H xs b = ((cnt xs b / Nat.gcd xs.length (cnt xs b) : Nat) : Int) := if_pos (hsb b hb)
  have p4 : shareQ W H xs b = ((xs.length / Nat.gcd xs.length (cnt xs b) : Nat) : Int) := if_pos (hsb b hb)
  refine ⟨hsb k hk, by rw [p1]; exact ⟨Int.natCast_nonneg _, Int.ofNat_le.2 (Nat.le_trans d1 (Nat.le_trans hck h64))⟩, by rw [p2]; exact ⟨Int.natCast_nonneg _, Int.ofNat_le.2 (Nat.le_trans d2 h64)⟩, ?_⟩
  rw [p1, p2, p3, p4, ← Int.natCast_mul, ← Int.natCast_mul, Int.not_lt]
  exact Int.ofNat_le.2 hle
end Go.Proofs.Ytndoianocmekmaa
