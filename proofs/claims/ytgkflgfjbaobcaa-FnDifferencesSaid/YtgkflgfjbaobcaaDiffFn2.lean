/- What the law FnDifferences asks of the plain functions. No condition. -/
import Derived.Test.YtgkflgfjbaobcaaDiffFn
namespace Go.Proofs.Ytgkflgfjbaobcaa
open Go.RowKit

theorem fd_top {W H V G d a : Int} {xs ys : List Int} (h : okX W H xs V G ys d a = true) :
    okX W H xs W H xs 0 0 = true ∧ (wrX W H xs W H xs 0 0).length = 0 ∧ ovX W H xs W H xs 0 0 = xs.length ∧ okX V G ys W H xs (-d) (-a) = true ∧ (wrX V G ys W H xs (-d) (-a)).length = (wrX W H xs V G ys d a).length ∧ ovX V G ys W H xs (-d) (-a) = ovX W H xs V G ys d a ∧ (rwX W H xs V G ys d a).sum = ((wrX W H xs V G ys d a).length : Int) ∧ (wrX W H xs V G ys d a).length ≤ ovX W H xs V G ys d a ∧ (rwX W H xs V G ys d a).length ≤ 64 ∧ ∀ y ∈ rwX W H xs V G ys d a, 0 ≤ y ∧ y ≤ 1000 := by
  have hs := okX_self (okX_of h).1
  have hb := okX_back h
  obtain ⟨m, k, rfl, rfl, m1, m8, k1, k8, hl, _, _, _⟩ := good_nat (okX_of h).1
  obtain ⟨pm, pk, rfl, rfl, pm1, pm8, pk1, pk8, hl', _, _, _⟩ := good_nat (okX_of h).2.1
  obtain ⟨w1, o1⟩ := wrX_yes h
  obtain ⟨w2, o2⟩ := wrX_yes hs
  obtain ⟨w3, o3⟩ := wrX_yes hb
  have hrw : rwX m k xs pm pk ys d a = rowsOf m k (wrX m k xs pm pk ys d a) := by unfold rwX; rw [if_pos h]; simp
  have hin : ∀ p ∈ wrX m k xs pm pk ys d a, p / m < k := fun p hp => by
    obtain ⟨m', k', e1, e2, _, _, _, _, h5⟩ := wrX_in hp
    rw [Int.ofNat_inj.1 e1, Int.ofNat_inj.1 e2]
    exact h5
  have h64 : (wrX m k xs pm pk ys d a).length ≤ 64 := wrX_len
  refine ⟨hs, ?_, ?_, hb, ?_, ?_, ?_, ?_, ?_, ?_⟩
  · rw [w2, (self_all m1 hl.out).2]; rfl
  · rw [o2, (self_all m1 hl.out).1]
  · rw [w3, w1]; exact back_wr m1 pm1 hl.out hl'.out
  · rw [o3, o1]; exact back_par m1 pm1 hl.out hl'.out
  · rw [hrw]; exact rows_sum _ hin
  · rw [w1, o1]; exact wrTo_le
  · rw [hrw, rowsOf_len]; omega
  · intro y hy
    rw [hrw] at hy
    unfold rowsOf at hy
    obtain ⟨r, _, rfl⟩ := List.mem_map.1 hy
    have : (wrX m k xs pm pk ys d a).countP (fun p => decide (p / m = r)) ≤ (wrX m k xs pm pk ys d a).length := List.countP_le_length
    generalize (wrX m k xs pm pk ys d a).countP (fun p => decide (p / m = r)) = z at *
    omega
theorem knX_n {W H V G d a : Int} {xs ys : List Int} : (knX W H xs V G ys d a).length = (wrX W H xs V G ys d a).length := by unfold knX; rw [List.length_map]
theorem dec_swap {x y : Nat} (h : x = 0 ↔ y = 0) : (((x : Int) == 0) == ((y : Int) == 0)) = true := by
  rw [beq_iff_eq, Bool.eq_iff_iff, beq_iff_eq, beq_iff_eq]
  omega
end Go.Proofs.Ytgkflgfjbaobcaa
