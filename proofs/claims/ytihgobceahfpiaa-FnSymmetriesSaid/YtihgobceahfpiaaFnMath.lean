/- Plain mathematics of the law of completion: a completed chart has the symmetry, and needs no change; mirroring twice is none. -/
import Derived.Test.YtihgobceahfpiaaCompletes
import Derived.Test.YtihgobceahfpiaaHasSym
namespace Go.Proofs.Ytihgobceahfpiaa
open Go.RowKit

section
variable {g : Nat → Nat} {n : Nat}
theorem cnt_comp (h : Ring4 n g) {xs : List Int} {p : Nat} (hp : p < n) (hn : n = xs.length) (c : Int) : ∀ t, cntTo g (compL g xs xs.length) p t c = if c = ((bestC g xs p : Nat) : Int) then t else 0
  | 0 => by show 0 = _; split <;> rfl
  | t + 1 => by
    have ih := cnt_comp h hp hn c t
    show cntTo g (compL g xs xs.length) p t c + cntE (compL g xs xs.length) c (iter g t p) = _
    rw [ih]
    unfold cntE
    rw [compL_get (by rw [← hn]; exact h.iter_lt hp t), h.best_iter hp xs t]
    by_cases e : c = ((bestC g xs p : Nat) : Int)
    · rw [if_pos e, if_pos e, if_pos e.symm]
    · rw [if_neg e, if_neg e, if_neg (fun x => e x.symm)]
theorem bestTo_one (b N : Nat) (f : Nat → Nat) (hf : ∀ j, f j = if j = b then N else 0) (hN : 1 ≤ N) : ∀ j, bestTo f j = if b < j then b else 0
  | 0 => by rw [if_neg (by omega)]; rfl
  | j + 1 => by
    have ih := bestTo_one b N f hf hN j
    have hb : f b = N := by rw [hf b, if_pos rfl]
    show (if f (bestTo f j) < f j then j else bestTo f j) = _
    by_cases e : b < j
    · have i1 : bestTo f j = b := by rw [ih, if_pos e]
      have i2 : f j = 0 := by rw [hf j, if_neg (by omega)]
      rw [i1, i2, hb, if_neg (by omega), if_pos (by omega)]
    · have i1 : bestTo f j = 0 := by rw [ih, if_neg e]
      by_cases e2 : j = b
      · have i2 : f j = N := by rw [e2, hb]
        rw [i1, i2, if_pos (show b < j + 1 by omega)]
        by_cases e3 : b = 0
        · subst e3; rw [hb, if_neg (by omega)]
        · have i3 : f 0 = 0 := by rw [hf 0, if_neg (fun x => e3 x.symm)]
          rw [i3, if_pos (by omega), e2]
      · have i2 : f j = 0 := by rw [hf j, if_neg e2]
        rw [i1, i2, if_neg (by omega), if_neg (by omega)]
theorem comp_comp (h : Ring4 n g) {xs : List Int} (hn : n = xs.length) : compL g (compL g xs xs.length) (compL g xs xs.length).length = compL g xs xs.length := by
  refine list_ext0 (by rw [compL_len]) fun p hp => ?_
  rw [compL_len, compL_len] at hp
  rw [compL_get (by rw [compL_len]; exact hp), compL_get hp]
  have hp' : p < n := by rw [hn]; exact hp
  have hb := bestC_lt g xs p
  have hper := per_le g p
  have := bestTo_one (bestC g xs p) (per g p) (fun j => cnt g (compL g xs xs.length) p (j : Int)) (fun j => by
    show cntTo g (compL g xs xs.length) p (per g p) (j : Int) = _
    rw [cnt_comp h hp' hn]
    by_cases e : j = bestC g xs p
    · rw [if_pos e, if_pos (by rw [e])]
    · rw [if_neg e, if_neg (by omega)]) hper.1 6
  rw [if_pos hb] at this
  show ((bestTo (fun j => cnt g (compL g xs xs.length) p (j : Int)) 6 : Nat) : Int) = _
  rw [this]
end
theorem chTo_self (xs : List Int) : ∀ j, chTo xs xs j = 0
  | 0 => rfl
  | j + 1 => by rw [chTo_yes rfl, chTo_self xs j]
theorem comp_good {W H : Int} {xs : List Int} {g : Nat → Nat} (h : goodB W H xs = true) : goodB W H (compL g xs xs.length) = true := by
  obtain ⟨hW, hH, hl, _⟩ := goodB_yes h
  simp only [goodB, Bool.and_eq_true, decide_eq_true_eq, List.all_eq_true, compL_len]
  refine ⟨⟨⟨by simpa [isSideB] using hW, by simpa [isSideB] using hH⟩, hl⟩, fun x hx => ?_⟩
  simp only [compL, List.mem_map] at hx
  obtain ⟨p, _, rfl⟩ := hx
  have := bestC_lt g xs p
  simp [isColorB]
  omega
theorem comp_same {m k s : Nat} {xs : List Int} (hok : (⟨m, k, xs⟩ : Pic).Ok) (hk : keepsB m k s = true) (hr : Ring4 xs.length (org m k s)) : (⟨m, k, compL (org m k s) xs xs.length⟩ : Pic).same s = true := by
  have hc : (⟨m, k, compL (org m k s) xs xs.length⟩ : Pic).Ok := ⟨hok.1, hok.2.1, hok.2.2.1, hok.2.2.2.1, (compL_len _ _ _).trans hok.2.2.2.2⟩
  have hlen : xs.length = m * k := hok.2.2.2.2
  rw [same_keeps hk, decide_eq_true_eq]
  refine list_ext0 (by rw [move_len hc, compL_len, hlen]) fun q hq => ?_
  rw [move_len hc, ← hlen] at hq
  rw [move_get (by rw [← hlen]; exact hq), compL_get (hr.lt q hq), compL_get hq]
  have := hr.best_iter hq xs 1
  exact congrArg (fun x : Nat => (x : Int)) this
/-- What the law asks of a completed chart. -/
theorem comp_facts {W H : Int} {xs : List Int} {s : Int} (h : compOk W H xs s = true) : hasB W H (compX W H xs s) s = true ∧ moveOk W H (compX W H xs s) s = true ∧ compOk W H (compX W H xs s) s = true ∧ fewN W H (compX W H xs s) s = 0 ∧ (compX W H xs s).length = xs.length := by
  obtain ⟨h1, h2, h3⟩ := comp_yes h
  have hX : compX W H xs s = compL (org W.toNat H.toNat s.toNat) xs xs.length := if_pos h
  rw [hX]
  have hg := comp_good (g := org W.toNat H.toNat s.toNat) h1
  have hm : moveOk W H (compL (org W.toNat H.toNat s.toNat) xs xs.length) s = true := by simp [moveOk, hg, h2]
  have hc : compOk W H (compL (org W.toNat H.toNat s.toNat) xs xs.length) s = true := by simp [compOk, hg, h2, h3]
  obtain ⟨m, k, t, rfl, rfl, rfl, ht7, hpok, hk, hring, hcol, hx64, hl1⟩ := comp_nat h
  simp only [Int.toNat_natCast] at hm hc ⊢
  refine ⟨?_, hm, hc, ?_, compL_len _ _ _⟩
  · unfold hasB
    rw [hm]
    simp only [Int.toNat_natCast, Bool.true_and]
    exact comp_same hpok hk hring
  · unfold fewN
    rw [if_pos hc]
    simp only [Int.toNat_natCast]
    rw [comp_comp hring rfl, chTo_self]
    rfl
theorem mirror_mirror {m k : Nat} {xs : List Int} (h : xs.length = m * k) : mirrorL m k (mirrorL m k xs) = xs := by
  refine (gridL_ext (by rw [h, Nat.mul_comm]) fun i j hi hj => ?_).symm
  show _ = (mirrorL m k xs).getD (i * m + (m - 1 - j)) 0
  rw [show (mirrorL m k xs).getD (i * m + (m - 1 - j)) 0 = elt m xs i (m - 1 - (m - 1 - j)) from gridL_get hi (by omega), show m - 1 - (m - 1 - j) = j by omega]
  rfl
end Go.Proofs.Ytihgobceahfpiaa
