/-
  No cell of these rows narrows 'for every input' (looked for: loops, veiled, ifaces, maps, wideKeys, modest, calm, conditions, laid).
  DERIVED. THE GIVEN ROWS OF THIS SEAT. 9 by the template 'for every input the law returns true; each argument reads behind the call as it read before'; 0 by the template 'total and deterministic' (their statements: YtningidjeipiaaaTotals.lean).
  GIVEN WITH THE SEED: the statements are not yours to turn. If you find one false, say at which input.
  Laid BY PROGRAM, IN A SANDBOX (cutbox-rows.mjs): the forced cells as the released guide's own fill.sh prints them over the translation f7ebe2f4ae4487d7… (all of the seat's roots in one cut). By AI agents, Wed Nov 11 2026. No macro, syntax, notation, axiom, sorry.
-/
import Derived.Test.YtningidjeipiaaaChecked
import GoSem.Claim
import GoSem.ClaimJoined
import GoSem.ClaimMapViews
import Derived.JoinedTies
import Derived.KernelRfl
namespace Go.Proofs.Ytningidjeipiaaa
/- THE CELL 'sum', in the pinned program and in every row, IS THE sha256 OF THE DUMP (.gsa) THAT YtningidjeipiaaaProg.lean LOADS. Nothing in Lean hashes anything: it is a label: what it is worth is what the hold of that sum in a sandbox is worth. -/
noncomputable def Try.pinned : Pinned := { name := "ytningidjeipiaaa", sum := "f7ebe2f4ae4487d71f42010c4a50a066044bead373867aa5c285a3954119eee1", checked := Try.checked }
namespace Rows
def none {H : Type} : Left H := { results := [], args := [] }

/-- 'laws.FnExactTurnChart': WHATEVER THE INPUT: true; the input reads as it did. -/
def fnExactTurnChartSpec : ChangeSpec := { name := "fnExactTurnChart", fn := fun _ => fun
  | [d] => { results := [.lit (.bool true)], args := [d] }
  | _ => none }
def fnExactTurnChartRow : OpenClaim := { program := "ytningidjeipiaaa", sum := "f7ebe2f4ae4487d71f42010c4a50a066044bead373867aa5c285a3954119eee1", func := "loop.example/g01023/laws.FnExactTurnChart", spec := "fnExactTurnChart", apart := false }
def FnExactTurnChartSaid : Prop := fnExactTurnChartRow.holds Try.pinned (OpenSpec.ofChange fnExactTurnChartSpec)

/-- ITS FALSE NEIGHBOUR: 'it returns false'. Refute it at one input. -/
def fnExactTurnChartWrong : ChangeSpec := { name := "fnExactTurnChart", fn := fun _ => fun
  | [d] => { results := [.lit (.bool false)], args := [d] }
  | _ => none }
def FnExactTurnChartWrongFalsely : Prop := fnExactTurnChartRow.holds Try.pinned (OpenSpec.ofChange fnExactTurnChartWrong)

/-- 'laws.FnExactMirrorChart': WHATEVER THE INPUT: true; the input reads as it did. -/
def fnExactMirrorChartSpec : ChangeSpec := { name := "fnExactMirrorChart", fn := fun _ => fun
  | [d] => { results := [.lit (.bool true)], args := [d] }
  | _ => none }
def fnExactMirrorChartRow : OpenClaim := { program := "ytningidjeipiaaa", sum := "f7ebe2f4ae4487d71f42010c4a50a066044bead373867aa5c285a3954119eee1", func := "loop.example/g01023/laws.FnExactMirrorChart", spec := "fnExactMirrorChart", apart := false }
def FnExactMirrorChartSaid : Prop := fnExactMirrorChartRow.holds Try.pinned (OpenSpec.ofChange fnExactMirrorChartSpec)

/-- ITS FALSE NEIGHBOUR: 'it returns false'. Refute it at one input. -/
def fnExactMirrorChartWrong : ChangeSpec := { name := "fnExactMirrorChart", fn := fun _ => fun
  | [d] => { results := [.lit (.bool false)], args := [d] }
  | _ => none }
def FnExactMirrorChartWrongFalsely : Prop := fnExactMirrorChartRow.holds Try.pinned (OpenSpec.ofChange fnExactMirrorChartWrong)

/-- 'laws.FnExactMoveChart': WHATEVER THE INPUT: true; the input reads as it did. -/
def fnExactMoveChartSpec : ChangeSpec := { name := "fnExactMoveChart", fn := fun _ => fun
  | [d1, d2] => { results := [.lit (.bool true)], args := [d1, d2] }
  | _ => none }
def fnExactMoveChartRow : OpenClaim := { program := "ytningidjeipiaaa", sum := "f7ebe2f4ae4487d71f42010c4a50a066044bead373867aa5c285a3954119eee1", func := "loop.example/g01023/laws.FnExactMoveChart", spec := "fnExactMoveChart", apart := false }
def FnExactMoveChartSaid : Prop := fnExactMoveChartRow.holds Try.pinned (OpenSpec.ofChange fnExactMoveChartSpec)

/-- ITS FALSE NEIGHBOUR: 'it returns false'. Refute it at one input. -/
def fnExactMoveChartWrong : ChangeSpec := { name := "fnExactMoveChart", fn := fun _ => fun
  | [d1, d2] => { results := [.lit (.bool false)], args := [d1, d2] }
  | _ => none }
def FnExactMoveChartWrongFalsely : Prop := fnExactMoveChartRow.holds Try.pinned (OpenSpec.ofChange fnExactMoveChartWrong)

/-- 'laws.FnExactHasSymmetry': WHATEVER THE INPUT: true; the input reads as it did. -/
def fnExactHasSymmetrySpec : ChangeSpec := { name := "fnExactHasSymmetry", fn := fun _ => fun
  | [d1, d2] => { results := [.lit (.bool true)], args := [d1, d2] }
  | _ => none }
def fnExactHasSymmetryRow : OpenClaim := { program := "ytningidjeipiaaa", sum := "f7ebe2f4ae4487d71f42010c4a50a066044bead373867aa5c285a3954119eee1", func := "loop.example/g01023/laws.FnExactHasSymmetry", spec := "fnExactHasSymmetry", apart := false }
def FnExactHasSymmetrySaid : Prop := fnExactHasSymmetryRow.holds Try.pinned (OpenSpec.ofChange fnExactHasSymmetrySpec)

/-- ITS FALSE NEIGHBOUR: 'it returns false'. Refute it at one input. -/
def fnExactHasSymmetryWrong : ChangeSpec := { name := "fnExactHasSymmetry", fn := fun _ => fun
  | [d1, d2] => { results := [.lit (.bool false)], args := [d1, d2] }
  | _ => none }
def FnExactHasSymmetryWrongFalsely : Prop := fnExactHasSymmetryRow.holds Try.pinned (OpenSpec.ofChange fnExactHasSymmetryWrong)

/-- 'laws.FnExactSymmetriesOf': WHATEVER THE INPUT: true; the input reads as it did. -/
def fnExactSymmetriesOfSpec : ChangeSpec := { name := "fnExactSymmetriesOf", fn := fun _ => fun
  | [d] => { results := [.lit (.bool true)], args := [d] }
  | _ => none }
def fnExactSymmetriesOfRow : OpenClaim := { program := "ytningidjeipiaaa", sum := "f7ebe2f4ae4487d71f42010c4a50a066044bead373867aa5c285a3954119eee1", func := "loop.example/g01023/laws.FnExactSymmetriesOf", spec := "fnExactSymmetriesOf", apart := false }
def FnExactSymmetriesOfSaid : Prop := fnExactSymmetriesOfRow.holds Try.pinned (OpenSpec.ofChange fnExactSymmetriesOfSpec)

/-- ITS FALSE NEIGHBOUR: 'it returns false'. Refute it at one input. -/
def fnExactSymmetriesOfWrong : ChangeSpec := { name := "fnExactSymmetriesOf", fn := fun _ => fun
  | [d] => { results := [.lit (.bool false)], args := [d] }
  | _ => none }
def FnExactSymmetriesOfWrongFalsely : Prop := fnExactSymmetriesOfRow.holds Try.pinned (OpenSpec.ofChange fnExactSymmetriesOfWrong)

/-- 'laws.FnExactAfterBoth': WHATEVER THE INPUT: true; the input reads as it did. -/
def fnExactAfterBothSpec : ChangeSpec := { name := "fnExactAfterBoth", fn := fun _ => fun
  | [d1, d2] => { results := [.lit (.bool true)], args := [d1, d2] }
  | _ => none }
def fnExactAfterBothRow : OpenClaim := { program := "ytningidjeipiaaa", sum := "f7ebe2f4ae4487d71f42010c4a50a066044bead373867aa5c285a3954119eee1", func := "loop.example/g01023/laws.FnExactAfterBoth", spec := "fnExactAfterBoth", apart := false }
def FnExactAfterBothSaid : Prop := fnExactAfterBothRow.holds Try.pinned (OpenSpec.ofChange fnExactAfterBothSpec)

/-- ITS FALSE NEIGHBOUR: 'it returns false'. Refute it at one input. -/
def fnExactAfterBothWrong : ChangeSpec := { name := "fnExactAfterBoth", fn := fun _ => fun
  | [d1, d2] => { results := [.lit (.bool false)], args := [d1, d2] }
  | _ => none }
def FnExactAfterBothWrongFalsely : Prop := fnExactAfterBothRow.holds Try.pinned (OpenSpec.ofChange fnExactAfterBothWrong)

/-- 'laws.FnExactUndoOf': WHATEVER THE INPUT: true; the input reads as it did. -/
def fnExactUndoOfSpec : ChangeSpec := { name := "fnExactUndoOf", fn := fun _ => fun
  | [d] => { results := [.lit (.bool true)], args := [d] }
  | _ => none }
def fnExactUndoOfRow : OpenClaim := { program := "ytningidjeipiaaa", sum := "f7ebe2f4ae4487d71f42010c4a50a066044bead373867aa5c285a3954119eee1", func := "loop.example/g01023/laws.FnExactUndoOf", spec := "fnExactUndoOf", apart := false }
def FnExactUndoOfSaid : Prop := fnExactUndoOfRow.holds Try.pinned (OpenSpec.ofChange fnExactUndoOfSpec)

/-- ITS FALSE NEIGHBOUR: 'it returns false'. Refute it at one input. -/
def fnExactUndoOfWrong : ChangeSpec := { name := "fnExactUndoOf", fn := fun _ => fun
  | [d] => { results := [.lit (.bool false)], args := [d] }
  | _ => none }
def FnExactUndoOfWrongFalsely : Prop := fnExactUndoOfRow.holds Try.pinned (OpenSpec.ofChange fnExactUndoOfWrong)

/-- 'laws.FnExactFewestChanges': WHATEVER THE INPUT: true; the input reads as it did. -/
def fnExactFewestChangesSpec : ChangeSpec := { name := "fnExactFewestChanges", fn := fun _ => fun
  | [d1, d2] => { results := [.lit (.bool true)], args := [d1, d2] }
  | _ => none }
def fnExactFewestChangesRow : OpenClaim := { program := "ytningidjeipiaaa", sum := "f7ebe2f4ae4487d71f42010c4a50a066044bead373867aa5c285a3954119eee1", func := "loop.example/g01023/laws.FnExactFewestChanges", spec := "fnExactFewestChanges", apart := false }
def FnExactFewestChangesSaid : Prop := fnExactFewestChangesRow.holds Try.pinned (OpenSpec.ofChange fnExactFewestChangesSpec)

/-- ITS FALSE NEIGHBOUR: 'it returns false'. Refute it at one input. -/
def fnExactFewestChangesWrong : ChangeSpec := { name := "fnExactFewestChanges", fn := fun _ => fun
  | [d1, d2] => { results := [.lit (.bool false)], args := [d1, d2] }
  | _ => none }
def FnExactFewestChangesWrongFalsely : Prop := fnExactFewestChangesRow.holds Try.pinned (OpenSpec.ofChange fnExactFewestChangesWrong)

/-- 'laws.FnExactCompleteChart': WHATEVER THE INPUT: true; the input reads as it did. -/
def fnExactCompleteChartSpec : ChangeSpec := { name := "fnExactCompleteChart", fn := fun _ => fun
  | [d1, d2] => { results := [.lit (.bool true)], args := [d1, d2] }
  | _ => none }
def fnExactCompleteChartRow : OpenClaim := { program := "ytningidjeipiaaa", sum := "f7ebe2f4ae4487d71f42010c4a50a066044bead373867aa5c285a3954119eee1", func := "loop.example/g01023/laws.FnExactCompleteChart", spec := "fnExactCompleteChart", apart := false }
def FnExactCompleteChartSaid : Prop := fnExactCompleteChartRow.holds Try.pinned (OpenSpec.ofChange fnExactCompleteChartSpec)

/-- ITS FALSE NEIGHBOUR: 'it returns false'. Refute it at one input. -/
def fnExactCompleteChartWrong : ChangeSpec := { name := "fnExactCompleteChart", fn := fun _ => fun
  | [d1, d2] => { results := [.lit (.bool false)], args := [d1, d2] }
  | _ => none }
def FnExactCompleteChartWrongFalsely : Prop := fnExactCompleteChartRow.holds Try.pinned (OpenSpec.ofChange fnExactCompleteChartWrong)

/- THE SECOND FORM. 'bulk': how many values and letters a reading holds, each counted each time it is reached (what is shared counts as often as it is met; a slice's spare places count too). A statement '..UptoSaid' is the law's where the arguments, and the package variables that the reading takes, are together of bulk at most 1048576: NARROWER than '..Said'. Prove '..Said' where nothing that the law and all that it calls make is longer than what came in: it says more and counts as full. Else prove '..UptoSaid'. A law counts once. -/
mutual
def uptoBulk {H : Type} : DataW H → Nat
  | .lit (.string bytes) => bytes.length + 1
  | .lit _ => 1
  | .nil => 1
  | .ptr d => uptoBulk d + 1
  | .slice elems spare => uptoBulkAll elems + uptoBulkAll spare + 1
  | .agg parts => uptoBulkAll parts + 1
  | .iface _ d => uptoBulk d + 1
  | .map entries => uptoBulkEntries entries + 1
  | .held _ => 1
def uptoBulkAll {H : Type} : List (DataW H) → Nat
  | [] => 0
  | d :: r => uptoBulk d + uptoBulkAll r
def uptoBulkEntries {H : Type} : List (Lit × DataW H) → Nat
  | [] => 0
  | x :: r => uptoBulkEntry x + uptoBulkEntries r
def uptoBulkEntry {H : Type} : Lit × DataW H → Nat
  | (.string bytes, d) => bytes.length + uptoBulk d + 1
  | (_, d) => uptoBulk d + 1
 end
def uptoSmall : (H : Type) → List (DataW H) → Bool := fun _ ds => decide (uptoBulkAll ds ≤ 1048576)
def OpenSpec.upto (s : _root_.Go.ChangeSpec) : _root_.Go.OpenSpec := { _root_.Go.OpenSpec.ofChange s with cond := some uptoSmall }

/-- 'laws.FnExactTurnChart', WHERE WHAT IT READS IS OF BULK AT MOST 1048576: true; the input reads as it did. -/
def fnExactTurnChartUptoRow : OpenClaim := { program := "ytningidjeipiaaa", sum := "f7ebe2f4ae4487d71f42010c4a50a066044bead373867aa5c285a3954119eee1", func := "loop.example/g01023/laws.FnExactTurnChart", spec := "fnExactTurnChart", apart := false, narrowed := true }
def FnExactTurnChartUptoSaid : Prop := fnExactTurnChartUptoRow.holds Try.pinned (OpenSpec.upto fnExactTurnChartSpec)

/-- 'laws.FnExactMirrorChart', WHERE WHAT IT READS IS OF BULK AT MOST 1048576: true; the input reads as it did. -/
def fnExactMirrorChartUptoRow : OpenClaim := { program := "ytningidjeipiaaa", sum := "f7ebe2f4ae4487d71f42010c4a50a066044bead373867aa5c285a3954119eee1", func := "loop.example/g01023/laws.FnExactMirrorChart", spec := "fnExactMirrorChart", apart := false, narrowed := true }
def FnExactMirrorChartUptoSaid : Prop := fnExactMirrorChartUptoRow.holds Try.pinned (OpenSpec.upto fnExactMirrorChartSpec)

/-- 'laws.FnExactMoveChart', WHERE WHAT IT READS IS OF BULK AT MOST 1048576: true; the input reads as it did. -/
def fnExactMoveChartUptoRow : OpenClaim := { program := "ytningidjeipiaaa", sum := "f7ebe2f4ae4487d71f42010c4a50a066044bead373867aa5c285a3954119eee1", func := "loop.example/g01023/laws.FnExactMoveChart", spec := "fnExactMoveChart", apart := false, narrowed := true }
def FnExactMoveChartUptoSaid : Prop := fnExactMoveChartUptoRow.holds Try.pinned (OpenSpec.upto fnExactMoveChartSpec)

/-- 'laws.FnExactHasSymmetry', WHERE WHAT IT READS IS OF BULK AT MOST 1048576: true; the input reads as it did. -/
def fnExactHasSymmetryUptoRow : OpenClaim := { program := "ytningidjeipiaaa", sum := "f7ebe2f4ae4487d71f42010c4a50a066044bead373867aa5c285a3954119eee1", func := "loop.example/g01023/laws.FnExactHasSymmetry", spec := "fnExactHasSymmetry", apart := false, narrowed := true }
def FnExactHasSymmetryUptoSaid : Prop := fnExactHasSymmetryUptoRow.holds Try.pinned (OpenSpec.upto fnExactHasSymmetrySpec)

/-- 'laws.FnExactSymmetriesOf', WHERE WHAT IT READS IS OF BULK AT MOST 1048576: true; the input reads as it did. -/
def fnExactSymmetriesOfUptoRow : OpenClaim := { program := "ytningidjeipiaaa", sum := "f7ebe2f4ae4487d71f42010c4a50a066044bead373867aa5c285a3954119eee1", func := "loop.example/g01023/laws.FnExactSymmetriesOf", spec := "fnExactSymmetriesOf", apart := false, narrowed := true }
def FnExactSymmetriesOfUptoSaid : Prop := fnExactSymmetriesOfUptoRow.holds Try.pinned (OpenSpec.upto fnExactSymmetriesOfSpec)

/-- 'laws.FnExactAfterBoth', WHERE WHAT IT READS IS OF BULK AT MOST 1048576: true; the input reads as it did. -/
def fnExactAfterBothUptoRow : OpenClaim := { program := "ytningidjeipiaaa", sum := "f7ebe2f4ae4487d71f42010c4a50a066044bead373867aa5c285a3954119eee1", func := "loop.example/g01023/laws.FnExactAfterBoth", spec := "fnExactAfterBoth", apart := false, narrowed := true }
def FnExactAfterBothUptoSaid : Prop := fnExactAfterBothUptoRow.holds Try.pinned (OpenSpec.upto fnExactAfterBothSpec)

/-- 'laws.FnExactUndoOf', WHERE WHAT IT READS IS OF BULK AT MOST 1048576: true; the input reads as it did. -/
def fnExactUndoOfUptoRow : OpenClaim := { program := "ytningidjeipiaaa", sum := "f7ebe2f4ae4487d71f42010c4a50a066044bead373867aa5c285a3954119eee1", func := "loop.example/g01023/laws.FnExactUndoOf", spec := "fnExactUndoOf", apart := false, narrowed := true }
def FnExactUndoOfUptoSaid : Prop := fnExactUndoOfUptoRow.holds Try.pinned (OpenSpec.upto fnExactUndoOfSpec)

/-- 'laws.FnExactFewestChanges', WHERE WHAT IT READS IS OF BULK AT MOST 1048576: true; the input reads as it did. -/
def fnExactFewestChangesUptoRow : OpenClaim := { program := "ytningidjeipiaaa", sum := "f7ebe2f4ae4487d71f42010c4a50a066044bead373867aa5c285a3954119eee1", func := "loop.example/g01023/laws.FnExactFewestChanges", spec := "fnExactFewestChanges", apart := false, narrowed := true }
def FnExactFewestChangesUptoSaid : Prop := fnExactFewestChangesUptoRow.holds Try.pinned (OpenSpec.upto fnExactFewestChangesSpec)

/-- 'laws.FnExactCompleteChart', WHERE WHAT IT READS IS OF BULK AT MOST 1048576: true; the input reads as it did. -/
def fnExactCompleteChartUptoRow : OpenClaim := { program := "ytningidjeipiaaa", sum := "f7ebe2f4ae4487d71f42010c4a50a066044bead373867aa5c285a3954119eee1", func := "loop.example/g01023/laws.FnExactCompleteChart", spec := "fnExactCompleteChart", apart := false, narrowed := true }
def FnExactCompleteChartUptoSaid : Prop := fnExactCompleteChartUptoRow.holds Try.pinned (OpenSpec.upto fnExactCompleteChartSpec)

end Rows
end Go.Proofs.Ytningidjeipiaaa
