/- What FnCharts says of plain functions: a chart's text read again, a text's chart written again, counts that sum up, counts behind a change, the bounds of a run. No condition. -/
import Derived.Test.YteiaanaljimghaaParseMath
import Derived.Test.YteiaanaljimghaaCountMath
import Derived.Test.YteiaanaljimghaaChange
import Derived.Test.YteiaanaljimghaaRunMath
namespace Go.Proofs.Yteiaanaljimghaa
open Go.RowKit

/-- The rows of a valid chart's text. -/
theorem rows_of_text {m k : Nat} {K : List Int} (m1 : 1 ≤ m) (k1 : 1 ≤ k) (hl : Hid (K.length = m * k)) (hc : ∀ x ∈ K, 0 ≤ x ∧ x < 6) :
    ∃ rows, splitL 47 (tx m K K.length) = rows ∧ rows.length = k ∧ (∀ r ∈ rows, r.length = m) ∧ rows.flatten.map colorOf = K := by
  have hlk : K.length = k * m := by rw [hl.out, Nat.mul_comm]
  have hrl : ∀ r, r < k → (rowL m r K).length = m := fun r hr => rowL_len hl.out hr
  obtain ⟨rows, hrows⟩ : ∃ rows, (List.range k).map (fun r => (rowL m r K).map letter) = rows := ⟨_, rfl⟩
  have hu : ∀ r ∈ rows, r.length = m := by
    intro r hr
    rw [← hrows] at hr
    obtain ⟨i, hi, rfl⟩ := List.mem_map.1 hr
    rw [List.length_map]; exact hrl i (List.mem_range.1 hi)
  have hrc : rows.length = k := by rw [← hrows]; simp
  have hmem : ∀ r, ∀ x ∈ rowL m r K, x ∈ K := fun r x hx => List.mem_of_mem_drop (List.mem_of_mem_take hx)
  have hK : K = rows.flatten.map colorOf := by
    rw [← hrows, List.map_flatten, List.map_map]
    have : (List.map colorOf ∘ fun r => (rowL m r K).map letter) = fun r => (K.drop (r * m)).take m := by
      funext r
      simp only [Function.comp, List.map_map]
      have : ∀ x ∈ rowL m r K, (colorOf ∘ letter) x = x := fun x hx => color_letter (hc x (hmem r x hx))
      exact (List.map_congr_left this).trans (List.map_id' _)
    rw [this, chunks, ← hlk, List.take_length]
  have hno : ∀ r ∈ rows, (47 : UInt8) ∉ r := by
    intro r hr h47
    rw [← hrows] at hr
    obtain ⟨i, hi, rfl⟩ := List.mem_map.1 hr
    obtain ⟨x, hx, e⟩ := List.mem_map.1 h47
    have := letter_nat (hc x (hmem i x hx))
    rw [e] at this
    have e47 : ((47 : UInt8).toNat : Int) = 47 := rfl
    have := (hc x (hmem i x hx)).1
    omega
  refine ⟨rows, ?_, hrc, hu, hK.symm⟩
  rw [hlk, ← hrc, text_rows (by omega) hu hK hc _ (Nat.le_refl _), List.take_length]
  exact split_joinR 47 rows (by intro e; rw [e] at hrc; simp at hrc; omega) hno
theorem parse_text {W H : Int} {xs : List Int} (hg : goodB W H xs = true) : readOk (textC W H xs) = true ∧ readX (textC W H xs) = xs ∧ (readM (textC W H xs) : Int) = W ∧ (readH (textC W H xs) : Int) = H := by
  obtain ⟨m, k, rfl, rfl, m1, m8, k1, k8, hl, h64, hl1, hc⟩ := good_nat hg
  obtain ⟨rows, hr, hrc, hu, hK⟩ := rows_of_text m1 k1 hl hc
  have hT : textC m k xs = ⟨(tx m xs xs.length).toArray⟩ := by unfold textC; rw [if_pos hg, Int.toNat_natCast]
  rw [hT]
  obtain ⟨T, hTT⟩ : ∃ T : ByteArray, (⟨(tx m xs xs.length).toArray⟩ : ByteArray) = T := ⟨_, rfl⟩
  have hd : T.data.toList = tx m xs xs.length := by rw [← hTT]
  rw [hTT]
  have hrr : readRows T = rows := by unfold readRows; rw [hd]; exact hr
  have hKK : readK T = xs := by rw [readK_flat, hrr, hK]
  have hM : readM T = m := by
    unfold readM
    rw [hrr]
    cases rows with
    | nil => simp at hrc; omega
    | cons x r => exact hu x (by simp)
  have hH : readH T = k := by unfold readH; rw [hrr, hrc]
  have h8 : T.size ≤ 4000 := by
    have h1 := tx_len m xs xs.length
    rw [← hd, sizeL] at h1
    omega
  have hok : readOk T = true := by
    unfold readOk
    rw [hM, hH, hKK, hg, hrr, decide_eq_true h8]
    have : rows.all (fun r => r.length == m) = true := by rw [List.all_eq_true]; intro r hr; simpa using hu r hr
    rw [this]; rfl
  exact ⟨hok, by unfold readX; rw [if_pos hok, hKK], by rw [hM], by rw [hH]⟩
theorem text_parse {s : ByteArray} (h : readOk s = true) : goodB (readM s) (readH s) (readX s) = true ∧ textC (readM s) (readH s) (readX s) = s := by
  have hX : readX s = readK s := by unfold readX; rw [if_pos h]
  have h2 := h
  rw [read_spec] at h2
  simp only [Bool.and_eq_true, decide_eq_true_eq] at h2
  rw [hX]
  refine ⟨h2.1.2, ?_⟩
  unfold textC
  rw [if_pos h2.1.2, Int.toNat_natCast, h2.2]

theorem textC_size (W H : Int) (xs : List Int) : (textC W H xs).size ≤ 200 := by
  unfold textC
  split
  · rename_i h
    have := (good_bd h).1
    have h2 := tx_len W.toNat xs xs.length
    show (tx W.toNat xs xs.length).toArray.size ≤ 200
    rw [List.size_toArray]; omega
  · exact Nat.zero_le _
theorem howMany_cons (l : List Int) (x : Int) (q : Nat) : howMany (x :: l) q = howMany l q + if x = (q : Int) then 1 else 0 := by
  unfold howMany
  by_cases h : x = (q : Int) <;> simp [h]
theorem countL_sum {l : List Int} (h : ∀ x ∈ l, 0 ≤ x ∧ x < 6) : (countL l).sum = l.length := by
  induction l with
  | nil => rfl
  | cons x l ih =>
    have h1 := h x (by simp)
    have h2 := ih (fun y hy => h y (List.mem_cons_of_mem _ hy))
    have e : ∀ l : List Int, (countL l).sum = howMany l 0 + (howMany l 1 + (howMany l 2 + (howMany l 3 + (howMany l 4 + (howMany l 5 + 0))))) := fun l => rfl
    rw [e] at h2 ⊢
    simp only [howMany_cons, List.length_cons]
    have hx : x = 0 ∨ x = 1 ∨ x = 2 ∨ x = 3 ∨ x = 4 ∨ x = 5 := by omega
    rcases hx with rfl | rfl | rfl | rfl | rfl | rfl <;> simp <;> omega
theorem count_sum {W H : Int} {xs : List Int} (h : goodB W H xs = true) : (countC W H xs).sum = W * H := by
  obtain ⟨_, _, hl, hx⟩ := goodB_yes h
  unfold countC
  rw [if_pos h, countL_sum hx, hl]
theorem count_bd {W H : Int} {xs : List Int} : (∀ x ∈ countC W H xs, 0 ≤ x ∧ x ≤ 1000) ∧ (countC W H xs).length ≤ 1000 := by
  unfold countC
  split
  · rename_i h
    have h64 := (good_bd h).1
    refine ⟨fun x hx => ?_, by rw [countL_len]; omega⟩
    simp only [countL, List.mem_map] at hx
    obtain ⟨q, _, rfl⟩ := hx
    have := howMany_le xs q
    omega
  · exact ⟨fun x hx => by simp at hx, by simp⟩
theorem howMany_from {f t : Int} (hne : f ≠ t) {q : Nat} (hq : f = (q : Int)) (l : List Int) : howMany (l.map (chg f t)) q = 0 := by
  induction l with
  | nil => rfl
  | cons x l ih =>
    rw [List.map_cons, howMany_cons, ih]
    have : ¬ chg f t x = (q : Int) := by
      unfold chg; split <;> omega
    rw [if_neg this]; rfl
theorem howMany_to {f t : Int} (hne : f ≠ t) {q p : Nat} (hq : f = (q : Int)) (hp : t = (p : Int)) (l : List Int) : howMany (l.map (chg f t)) p = howMany l q + howMany l p := by
  induction l with
  | nil => rfl
  | cons x l ih =>
    rw [List.map_cons, howMany_cons, howMany_cons, howMany_cons, ih]
    unfold chg
    by_cases h1 : x = f
    · rw [if_pos h1, if_pos hp, if_pos (by omega), if_neg (by omega)]; omega
    · rw [if_neg h1, if_neg (show ¬ x = (q : Int) by omega)]
      omega
theorem change_counts {W H : Int} {xs : List Int} {f t : Int} (h : changeOk W H xs f t = true) (hne : f ≠ t) :
    ∃ q p : Nat, f = q ∧ t = p ∧ q < 6 ∧ p < 6 ∧ goodB W H xs = true ∧ goodB W H (changeL W H xs f t) = true ∧ (countC W H (changeL W H xs f t)).length = 6 ∧ (countC W H xs).length = 6 ∧
      (countC W H (changeL W H xs f t)).getD q 0 = 0 ∧ (countC W H (changeL W H xs f t)).getD p 0 = (countC W H xs).getD q 0 + (countC W H xs).getD p 0 ∧
      0 ≤ (countC W H xs).getD q 0 ∧ 0 ≤ (countC W H xs).getD p 0 ∧ (countC W H xs).getD q 0 ≤ 64 ∧ (countC W H xs).getD p 0 ≤ 64 := by
  obtain ⟨hg, hf, ht⟩ := change_yes h
  have hf' := isColorB_yes hf
  have ht' := isColorB_yes ht
  obtain ⟨q, rfl⟩ := Int.eq_ofNat_of_zero_le hf'.1
  obtain ⟨p, rfl⟩ := Int.eq_ofNat_of_zero_le ht'.1
  have hL : changeL W H xs q p = xs.map (chg q p) := by unfold changeL; rw [if_pos h]
  obtain ⟨hW, hH, hl, hx⟩ := goodB_yes hg
  have hg2 : goodB W H (changeL W H xs q p) = true := by
    rw [hL]
    unfold goodB at hg ⊢
    simp only [Bool.and_eq_true, decide_eq_true_eq, List.all_eq_true, List.length_map] at hg ⊢
    refine ⟨hg.1, fun x hx => ?_⟩
    obtain ⟨y, hy, rfl⟩ := List.mem_map.1 hx
    unfold chg; split
    · exact ht
    · exact hg.2 y hy
  have h64 := (good_bd hg).1
  have e1 : countC W H xs = countL xs := by unfold countC; rw [if_pos hg]
  have e2 : countC W H (changeL W H xs q p) = countL (xs.map (chg q p)) := by unfold countC; rw [if_pos hg2, hL]
  have hq6 : q < 6 := by omega
  have hp6 : p < 6 := by omega
  have b1 := howMany_le xs q
  have b2 := howMany_le xs p
  refine ⟨q, p, rfl, rfl, hq6, hp6, hg, hg2, by rw [e2, countL_len], by rw [e1, countL_len], ?_, ?_, ?_⟩
  · rw [e2, countL_get _ _ hq6]; exact howMany_from hne rfl xs
  · rw [e2, e1, countL_get _ _ hp6, countL_get _ _ hp6, countL_get _ _ hq6]; exact howMany_to hne rfl rfl xs
  · rw [e1, countL_get _ _ hp6, countL_get _ _ hq6]; omega
theorem best_pos (e : Nat → Int) (k : Nat) : 1 ≤ best e (k + 1) := by
  have h : 1 ≤ cur e (k + 1) := by
    have := cur_bd e k
    rw [cur_succ]; split <;> omega
  rw [best_succ]; omega
theorem run_bd {W H : Int} {xs : List Int} (h : goodB W H xs = true) : 1 ≤ runN W H xs ∧ runN W H xs ≤ W := by
  obtain ⟨m, k, rfl, rfl, m1, m8, k1, k8, _⟩ := good_nat h
  unfold runN
  rw [if_pos h, Int.toNat_natCast, Int.toNat_natCast]
  obtain ⟨k', rfl⟩ : ∃ k', k = k' + 1 := ⟨k - 1, by omega⟩
  obtain ⟨m', rfl⟩ : ∃ m', m = m' + 1 := ⟨m - 1, by omega⟩
  have h1 := best_pos (elt (m' + 1) xs k') m'
  have h2 := mostR_bd (m' + 1) xs (k' + 1)
  refine ⟨?_, h2.2⟩
  show 1 ≤ max (mostR (m' + 1) xs k') (best (elt (m' + 1) xs k') (m' + 1))
  omega
end Go.Proofs.Yteiaanaljimghaa
