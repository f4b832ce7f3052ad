/- What FnLots asks of lots: the first assignment is one, and the fewest lots are no more than it has different ones, nor than areas. No condition. -/
import Derived.Test.YtpnmnkdnlajfiaaMgRest
namespace Go.Proofs.Ytpnmnkdnlajfiaa
open Go.RowKit

theorem fst_fits : ∀ (sizes left : List Int) (r : List Nat), fst12 sizes left = some r → fitG sizes left (upI r) = true
  | [], _, r, h => by
    simp only [fst12, Option.some.injEq] at h
    subst h
    simp [fitG, upI]
  | s :: ss, left, r, h => by
    rw [fst12] at h
    obtain ⟨l, hl, e⟩ := findSome_of h
    by_cases hv : left.getD l 0 < s
    · rw [if_pos hv] at e; cases e
    · rw [if_neg hv] at e
      obtain ⟨r', hr', rfl⟩ := Option.map_eq_some_iff.1 e
      rw [fitG_cons, decide_eq_true hl, decide_eq_true (by omega), fst_fits ss _ r' hr']
      rfl
theorem frst_some {W H : Int} {xs : List Int} {color : Int} {lots : List Int} {r : List Nat} (h : frst W H xs color lots = some r) :
    askOk W H xs color lots = true ∧ isAsg W H xs color lots (upI r) = true ∧ r.length = (sizesX W H xs color).length ∧ ∀ x ∈ r, x < lots.length := by
  cases hs : srchOk W H xs color lots with
  | false => rw [frst_no hs] at h; cases h
  | true =>
    rw [frst_yes hs] at h
    obtain ⟨h1, h2⟩ := fst_some _ _ _ h
    have ha : askOk W H xs color lots = true := by simp only [srchOk, Bool.and_eq_true] at hs; exact hs.1
    refine ⟨ha, ?_, h1, h2⟩
    rw [isAsg, ha, enoughB, upI_len, decide_eq_true h1, fst_fits _ _ _ h]
    rfl
/-- Both fail together. -/
theorem frst_few {W H : Int} {xs : List Int} {color : Int} {lots : List Int} : (frst W H xs color lots).isSome = (fewO W H xs color lots).isSome := by
  cases hs : srchOk W H xs color lots with
  | false => rw [frst_no hs, fewO_no hs]; rfl
  | true =>
    rw [frst_yes hs, fewO_yes hs, Bool.eq_iff_iff, List.find?_isSome]
    constructor
    · intro h
      obtain ⟨r, hr⟩ := Option.isSome_iff_exists.1 h
      have hf := fst_fits _ _ _ hr
      obtain ⟨h1, h2⟩ := fst_some _ _ _ hr
      refine ⟨lots.length, List.mem_range.2 (by omega), ?_⟩
      rw [fewAt]
      refine (sr_some _ _).2 ⟨r, h1, by simpa using hf, ?_⟩
      have := dif_le (U := List.range lots.length) (fun x hx => List.mem_range.2 (h2 x hx))
      simpa using this
    · rintro ⟨n, _, hn⟩
      rw [fewAt] at hn
      obtain ⟨az, h1, h2, _⟩ := (sr_some _ _).1 hn
      rw [List.nil_append] at h2
      rw [fst_iff]
      have hlt := fitG_lt _ _ _ h2
      have hr : (List.range lots.length).map (fun k => lots.getD k 0) = lots := by
        refine List.ext_getElem (by simp) fun i h1 h2 => ?_
        simp only [List.getElem_map, List.getElem_range]
        exact getD_at h2
      have := fe_used _ lots az (List.range lots.length) h1 h2 List.nodup_range (fun x hx => List.mem_range.2 (hlt x hx))
      rwa [hr] at this
/-- The fewest lots are not more than the different ones of the first assignment. -/
theorem few_le {W H : Int} {xs : List Int} {color : Int} {lots : List Int} {r : List Nat} {n : Nat} (h : frst W H xs color lots = some r) (hn : fewO W H xs color lots = some n) : n ≤ dif12 r := by
  cases hs : srchOk W H xs color lots with
  | false => rw [frst_no hs] at h; cases h
  | true =>
    rw [frst_yes hs] at h
    rw [fewO_yes hs] at hn
    have hf := fst_fits _ _ _ h
    obtain ⟨h1, h2⟩ := fst_some _ _ _ h
    have hd := dif_le (U := List.range lots.length) (fun x hx => List.mem_range.2 (h2 x hx))
    rw [List.length_range] at hd
    have hat : fewAt W H xs color lots (dif12 r) = true := by
      rw [fewAt]
      exact (sr_some _ _).2 ⟨r, h1, by simpa using hf, by simp⟩
    rcases Nat.lt_or_ge (dif12 r) n with g | g
    · exfalso
      obtain ⟨as', bs, e, hno⟩ := (List.find?_eq_some_iff_append.1 hn).2
      have hmem : dif12 r ∈ as' := by
        have hl : as'.length = n := by
          have hnl : n < lots.length + 1 := List.mem_range.1 (List.mem_of_find?_eq_some hn)
          have := congrArg (fun l => l[as'.length]?) e
          simp only [List.getElem?_append_right (Nat.le_refl _), Nat.sub_self, List.getElem?_cons_zero] at this
          have hal : as'.length < lots.length + 1 := by
            have := congrArg List.length e
            simp at this
            omega
          rw [List.getElem?_range hal] at this
          simpa using this
        have h3 : (List.range (lots.length + 1))[dif12 r]? = some (dif12 r) := List.getElem?_range (by omega)
        rw [e, List.getElem?_append_left (by omega)] at h3
        exact List.mem_of_getElem? h3
      have := hno _ hmem
      rw [hat] at this
      exact absurd this (by decide)
    · exact g
theorem dif_len (l : List Nat) : dif12 l ≤ l.length := dif_le (fun _ h => h)
end Go.Proofs.Ytpnmnkdnlajfiaa
