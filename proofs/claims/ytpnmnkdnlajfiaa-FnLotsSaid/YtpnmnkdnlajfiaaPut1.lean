/- The walk of the model's l1Put: a number put into its place of a list in order. Conditions: the number is not in the list yet, the list is short. -/
import Derived.Test.YtpnmnkdnlajfiaaMgStep
import Derived.Test.YtpnmnkdnlajfiaaPut1Math
import Derived.Deep.RegionHeld3
namespace Go.Proofs.Ytpnmnkdnlajfiaa
open Go.RowKit

/-- What the orders of the region keep. -/
structure Px (w : World) (A : Option Addr) (c : Nat) (xs : List Int) (P : Nat) (wx : World) : Prop where
  out : RdF intF wx P A xs.length c xs
  bel : Below w.heap.size w wx
  sz : P ≤ wx.heap.size
  lo : w.heap.size ≤ P
section
variable {w wx wy : World} {P c : Nat} {A : Option Addr} {xs : List Int}
theorem Px.drew (h : Px w A c xs P wx) : Px w A c xs P wx.drew := ⟨h.out.drew, belowD h.bel, h.sz, h.lo⟩
theorem Px.alloc (h : Px w A c xs P wx) (o : Obj) : Px w A c xs P (wx.alloc o) := ⟨h.out.alloc h.sz o, h.bel.alloc h.bel.size o, by have := h.sz; simp; omega, h.lo⟩
theorem Px.grown (h : Px w A c xs P wx) {row : Option Nat} (hg : wx.grownBy wy row) (hr : ∀ k, row = some k → P ≤ k) : Px w A c xs P wy :=
  ⟨h.out.mark hg hr h.sz, h.bel.grown hg h.bel.size (fun k hk => Nat.le_trans h.lo (hr k hk)), Nat.le_trans h.sz hg.size, h.lo⟩
end
end Go.Proofs.Ytpnmnkdnlajfiaa
