/- The walks of the laws' own helpers over charts. Condition: at most 1048576 knots. -/
import Derived.Test.YtihhlldpdfihfaaHelp
namespace Go.Proofs.Ytihhlldpdfihfaa
open Go.RowKit

/-- A chart's value. -/
abbrev chartV (W H : Int) (v : Value) : Value := .agg #[.int .i64 W, .int .i64 H, v]
/-- What a copy of a chart leaves. -/
def ToChart (w : World) (W H : Int) (xs : List Int) (e : Ending) (w' : World) : Prop :=
  ∃ g, e = .returned (chartV W H (.slice (some ⟨g, 0, none⟩) xs.length xs.length)) ∧ Own w' w.heap.size (.slice (some ⟨g, 0, none⟩) xs.length xs.length) xs ∧ Below w.heap.size w w'

/-- What marking a chart leaves. -/
def MarkedChart (w : World) (lo : Nat) (v : Value) (k : Int) (n : Nat) (e : Ending) (w' : World) : Prop :=
  e = .returned (.int .i64 (k + n)) ∧ Own w' lo v (iota k n) ∧ w.grownBy w' v.ownBlock
end Go.Proofs.Ytihhlldpdfihfaa
