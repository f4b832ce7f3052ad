/- How a slice of strings comes in as a law's argument. No condition. -/
import Derived.Test.YtdfijojkkmpllaaStrs
import Derived.Test.YtdfijojkkmpllaaOpens
namespace Go.Proofs.Ytdfijojkkmpllaa
open Go.RowKit Go.ChangeShapes Go.WideShapes Go.ChangeAt Go.Deep

section
variable {H : Type} {enc : TypeId × Value → H} {w : World} {base : Nat} {spare : Nat → Bool} {held : Bool}
theorem open_cells_str {fuel : Nat} {cs : List Value} {x : DataW H × List MemPlace} (h : DataW.trod enc Try.prog w base spare held fuel 9 cs = some x) : ∃ a : ByteArray, strF.ok a ∧ cs = strF.enc a := by
  obtain ⟨n1, e1, _, w1⟩ := DataW.trod_string Try.underlying9 h
  exact ⟨n1, w1, e1⟩
end
section
variable {H : Type} {enc : TypeId × Value → H} {w : World} {r : Reach} {b0 base : Nat} {held : Bool} {v : Value} {d : DataW H} {p : List MemPlace}
set_option maxRecDepth 100000 in
theorem open_strs (hv : Value.okWide Try.prog w r b0 26 v) (h : DataW.Trod enc Try.prog w base (fun _ => true) held 26 v d p) : ∃ A n c xs, v = .slice A n c ∧ RdF strF w w.heap.size A n c xs := by
  obtain ⟨A0, n0, c0, rfl, _⟩ := okWide_slice Try.underlying26 hv
  obtain ⟨fuel, hf⟩ := h
  obtain ⟨A, n, c, xs, e, hr⟩ := open_flat strF (by decide) (fun _ _ _ h => open_cells_str h) Try.underlying26 (by kernel_rfl) hf
  cases e
  exact ⟨_, _, _, xs, rfl, hr⟩
end
end Go.Proofs.Ytdfijojkkmpllaa
