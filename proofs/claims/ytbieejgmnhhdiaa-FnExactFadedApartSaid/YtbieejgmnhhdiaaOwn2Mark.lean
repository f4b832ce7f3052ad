/- Rows of rows under a mark of another row; how many triads there are. No condition. -/
import Derived.Test.YtbieejgmnhhdiaaOwn2
import Derived.Test.YtbieejgmnhhdiaaTriadI
namespace Go.Proofs.Ytbieejgmnhhdiaa
open Go.RowKit

theorem Own2.mark {w w' : World} {lo : Nat} {v : Value} {yss : List (List Int)} {row : Option Nat} (h : Own2 w lo v yss) (hg : w.grownBy w' row) (hr : ∀ k, row = some k → k < lo) : Own2 w' lo v yss := by
  obtain ⟨hs, h1, h2, h3, h4⟩ := h
  have far : ∀ v : Value, (∀ k, v.ownBlock = some k → lo ≤ k) → v.ownBlock = none ∨ v.ownBlock ≠ row := by
    intro v hv
    cases hb : v.ownBlock with
    | none => exact .inl rfl
    | some k =>
      refine .inr fun e => ?_
      have h5 := hv k hb
      have h6 := hr k e.symm
      omega
  exact ⟨hs, h1, h2.kept hg (far v fun k hk => (h2.lt k hk).1), fun i h ys hi hy => (h3 i h ys hi hy).kept hg (far h fun k hk => ((h3 i h ys hi hy).1.lt k hk).1), h4⟩
theorem triadX_len (xs : List ShadeR) (wi : Int) : (triadX xs wi).length ≤ 100000 ∧ ((triadX xs wi).map List.length).sum ≤ 100000 := by
  unfold triadX
  split
  · rename_i h
    have hc : cardB xs = true := by unfold triadOk at h; simp at h; exact h.1
    have hl : xs.length ≤ 10 := (cardB_of hc).1
    have h1 := iRows_len wi xs xs.length (Nat.le_refl _)
    have h2 := ten3 hl
    omega
  · simp
end Go.Proofs.Ytbieejgmnhhdiaa
