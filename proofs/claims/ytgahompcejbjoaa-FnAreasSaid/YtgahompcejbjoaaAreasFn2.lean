/- What FnAreas asks, said of drawn charts. No condition. -/
import Derived.Test.YtgahompcejbjoaaAreasFn
namespace Go.Proofs.Ytgahompcejbjoaa
open Go.RowKit

theorem fa_top {W H : Int} {xs : List Int} (hg : goodB W H xs = true) : ∃ m n ga gb : Nat, areasN W H xs = (n : Int) ∧ greatA W H xs = (ga : Int) ∧ greatN W H xs = (gb : Int) ∧ colSum m xs 6 = (xs.length : Int) ∧ colCnt m xs 6 = n ∧ ga < n ∧ 1 ≤ gb ∧ xs.length ≤ gb * n ∧ n ≤ 64 ∧ gb ≤ 64 ∧ xs.length ≤ 64 ∧
    (∀ q : Nat, q < 6 → sizesX W H xs (q : Int) = sizesL m xs (q : Int) ∧ sizesOk W H xs (q : Int) = true) ∧ ∀ q : Int, (sizesL m xs q).length ≤ 64 ∧ ∀ y ∈ sizesL m xs q, 0 ≤ y ∧ y ≤ 1000 := by
  obtain ⟨m, k, rfl, rfl, _, _, _, _, _, h64, hN, hc⟩ := good_nat hg
  obtain ⟨h1, h2, h3⟩ := best_all (m := m) hN
  have h4 := cnt_le m xs
  have h5 := szA_le m (gBest m xs (cntOf m xs)) xs
  refine ⟨m, cntOf m xs, gBest m xs (cntOf m xs), szA m xs (gBest m xs (cntOf m xs)), areasN_yes hg, greatA_yes hg, greatN_yes hg, colSum_all hc, colCnt_all hc, h1, h2, h3, by omega, by omega, h64, fun q hq => ?_, fun q => ⟨?_, fun y hy => ?_⟩⟩
  · have hs : sizesOk m k xs (q : Int) = true := sizesOk_yes hg (by simp [isColorB]; omega)
    exact ⟨sizesX_yes hs, hs⟩
  · have := sizesL_len m xs q; omega
  · have := sizesL_rng y hy; omega
theorem fa_nb {W H : Int} {ys : List Int} {a : Int} (h : hasArea W H ys a = true) : (nbrsX W H ys a).length ≤ 64 ∧ ∀ v ∈ nbrsX W H ys a, hasArea W H ys v = true ∧ a ∈ nbrsX W H ys v := by
  have hg : goodB W H ys = true := by simp only [hasArea, Bool.and_eq_true] at h; exact h.1
  obtain ⟨m, k, rfl, rfl, _, _, _, _, _, h64, hN, hc⟩ := good_nat hg
  have hb := h
  rw [hasArea_eq hg] at hb
  have hab := inB_yes hb
  obtain ⟨q, rfl⟩ := Int.eq_ofNat_of_zero_le hab.1
  rw [nbrsX_yes h]
  refine ⟨by have := nbrsL_len m ys (q : Int); omega, fun v hv => ?_⟩
  obtain ⟨b, rfl⟩ := nbrs_nat hv
  obtain ⟨h1, h2⟩ := nbrs_back (by omega) hv
  have h3 : hasArea m k ys (b : Int) = true := by
    rw [hasArea_eq hg]
    exact decide_eq_true (by omega)
  exact ⟨h3, by rw [nbrsX_yes h3]; exact h2⟩
theorem fa_nbno {W H : Int} {ys : List Int} {a : Int} (h : hasArea W H ys a = false) : nbrsX W H ys a = [] := nbrsX_no h
theorem fa_fill {W H : Int} {zs : List Int} {a color : Int} (h : fillOk W H zs a color = true) : orZero (fillOk W H zs a color) W = W ∧ orZero (fillOk W H zs a color) H = H ∧ goodB W H zs = true ∧ goodB W H (fillX W H zs a color) = true ∧ ∃ n n' : Nat, areasN W H zs = (n : Int) ∧ areasN W H (fillX W H zs a color) = (n' : Int) ∧ n' ≤ n ∧ n ≤ 64 := by
  have hp := h
  simp only [fillOk, hasArea, Bool.and_eq_true] at hp
  obtain ⟨⟨hg, _⟩, hcl⟩ := hp
  obtain ⟨m, k, rfl, rfl, hm, hm8, hk, hk8, hl, h64, hN, hc⟩ := good_nat hg
  obtain ⟨e1, e2, e3⟩ := fill_yes h
  have hcol := isColorB_yes hcl
  have hg2 : goodB m k (fillX m k zs a color) = true := by
    rw [e3]
    refine good_ok (by simp [isSideB]; omega) (by simp [isSideB]; omega) (by rw [fillL_len, hl.out]; simp) ?_
    rw [List.all_eq_true]
    intro x hx
    obtain ⟨i, hi, rfl⟩ := List.mem_map.1 hx
    simp only [isColorB, decide_eq_true_eq]
    have hiN := List.mem_range.1 hi
    split
    · exact hcol
    · rw [getD_at hiN]; exact hc _ (List.getElem_mem hiN)
  refine ⟨e1, e2, hg, hg2, cntOf m zs, cntOf m (fillL m zs a color), areasN_yes hg, ?_, fill_cnt m zs a color, Nat.le_trans (cnt_le m zs) h64⟩
  rw [areasN_yes hg2, e3]
end Go.Proofs.Ytgahompcejbjoaa
