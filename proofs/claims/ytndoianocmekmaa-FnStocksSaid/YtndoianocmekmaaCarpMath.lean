/- Plain mathematics of how many carpets a stock is enough for. -/
import Derived.Test.YtndoianocmekmaaByMath
import Derived.Test.YtndoianocmekmaaStock
namespace Go.Proofs.Ytndoianocmekmaa
open Go.RowKit

def fitsN (zs ss : List Int) (s : YarnR) (n k : Nat) : Prop := ∀ i, i < k → lenY s ((n : Int) * zs.getD i 0) ≤ ss.getD i 0
instance (zs ss : List Int) (s : YarnR) (n k : Nat) : Decidable (fitsN zs ss s n k) := by unfold fitsN; infer_instance
def fitsB (zs ss : List Int) (s : YarnR) (n : Nat) : Bool := decide (fitsN zs ss s n 6)
def topN (f : Nat → Bool) : Nat → Nat
  | 0 => 0
  | n + 1 => if f (n + 1) = true then n + 1 else topN f n
theorem topN_eq (f : Nat → Bool) (r : Nat) (h0 : r = 0 ∨ f r = true) : ∀ N, r ≤ N → (∀ m, r < m → m ≤ N → f m = false) → topN f N = r
  | 0, hr, _ => by have : r = 0 := by omega
                   subst this; rfl
  | N + 1, hr, h => by
    unfold topN
    by_cases e : r = N + 1
    · subst e
      rcases h0 with h0 | h0
      · omega
      · rw [if_pos h0]
    · rw [if_neg (by rw [h (N + 1) (by omega) (Nat.le_refl _)]; simp)]
      exact topN_eq f r h0 N (by omega) (fun m h1 h2 => h m h1 (by omega))
theorem topN_le (f : Nat → Bool) : ∀ N, topN f N ≤ N
  | 0 => Nat.le_refl _
  | N + 1 => by
    unfold topN
    split
    · exact Nat.le_refl _
    · have := topN_le f N; omega
theorem lenY_mono {s : YarnR} (h : goodY s = true) {a b : Int} (hab : a ≤ b) : lenY s a ≤ lenY s b := by
  have hs := sharesY_bd h
  have := Int.mul_le_mul_of_nonneg_right hab (show 0 ≤ sharesY s by omega)
  unfold lenY
  omega
theorem fits_mono {zs ss : List Int} {s : YarnR} (h : goodY s = true) (hz : ∀ i, i < 6 → 0 ≤ zs.getD i 0) {m n k : Nat} (hk : k ≤ 6) (hmn : m ≤ n) (hf : fitsN zs ss s n k) : fitsN zs ss s m k := fun i hi =>
  Int.le_trans (lenY_mono h (Int.mul_le_mul_of_nonneg_right (by omega) (hz i (by omega)))) (hf i hi)
theorem fits_zero {zs ss : List Int} {s : YarnR} (hs : ∀ i, i < 6 → 0 ≤ ss.getD i 0) {k : Nat} (hk : k ≤ 6) : fitsN zs ss s 0 k := fun i hi => by
  have := hs i (by omega)
  simp only [lenY, Int.natCast_zero, Int.zero_mul]
  omega
def carpB (W H : Int) (xs : List Int) (s : YarnR) (ss : List Int) : Bool := byB W H xs s && stockB ss
def carpX (W H : Int) (xs : List Int) (s : YarnR) (ss : List Int) : Int := if carpB W H xs s ss = true then (topN (fitsB (countL xs) ss s) 1000 : Nat) else 0
theorem carp_no {W H : Int} {xs : List Int} {s : YarnR} {ss : List Int} (h : carpB W H xs s ss = false) : carpX W H xs s ss = 0 := by simp [carpX, h]
theorem carp_no0 {W H : Int} {xs : List Int} {s : YarnR} {ss : List Int} (h : goodB W H xs = false) : carpB W H xs s ss = false := by simp [carpB, byB, h]
theorem carp_no1 {W H : Int} {xs : List Int} {s : YarnR} {ss : List Int} (h : goodY s = false) : carpB W H xs s ss = false := by simp [carpB, byB, h]
theorem carp_no2 {W H : Int} {xs : List Int} {s : YarnR} {ss : List Int} (h : stockB ss = false) : carpB W H xs s ss = false := by simp [carpB, h]
theorem carp_yes {W H : Int} {xs : List Int} {s : YarnR} {ss : List Int} (h : goodB W H xs = true) (h' : goodY s = true) (h2 : stockB ss = true) : carpB W H xs s ss = true := by simp [carpB, byB, h, h', h2]
/-- Found from below: everything below n fits, n does not. -/
theorem top_below {zs ss : List Int} {s : YarnR} (h : goodY s = true) (hz : ∀ i, i < 6 → 0 ≤ zs.getD i 0) {n : Nat} (h1 : 1 ≤ n) (h2 : n ≤ 1001) (hf : ∀ m, m < n → fitsN zs ss s m 6) (hn : n ≤ 1000 → ¬ fitsN zs ss s n 6) : topN (fitsB zs ss s) 1000 = n - 1 :=
  topN_eq _ _ (.inr (decide_eq_true (hf _ (by omega)))) 1000 (by omega) fun m g1 g2 => decide_eq_false fun hm => hn (by omega) (fits_mono h hz (Nat.le_refl _) (show n ≤ m by omega) hm)
/-- Found from above: nothing above n fits, n does. -/
theorem top_above {zs ss : List Int} {s : YarnR} {n : Nat} (h2 : n ≤ 1000) (hf : ∀ m, n < m → m ≤ 1000 → ¬ fitsN zs ss s m 6) (hn : fitsN zs ss s n 6) : topN (fitsB zs ss s) 1000 = n :=
  topN_eq _ _ (.inr (decide_eq_true hn)) 1000 h2 fun m g1 g2 => decide_eq_false (hf m g1 g2)
theorem carpets_mul {x : Int} {n : Nat} (h0 : 0 ≤ x) (h1 : x ≤ 64) (hn : n ≤ 1000) : 0 ≤ (n : Int) * x ∧ (n : Int) * x ≤ 100000 := by
  have := mul_bd (a := (n : Int)) (A := 1000) (by omega) (by omega) h0 h1
  omega
end Go.Proofs.Ytndoianocmekmaa
