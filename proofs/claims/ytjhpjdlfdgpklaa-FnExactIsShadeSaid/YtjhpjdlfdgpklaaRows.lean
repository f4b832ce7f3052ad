/-
  No cell of these rows narrows 'for every input' (looked for: loops, veiled, ifaces, maps, wideKeys, modest, calm, conditions, laid).
  DERIVED. THE GIVEN ROWS OF THIS SEAT. 10 by the template 'for every input the law returns true; each argument reads behind the call as it read before'; 0 by the template 'total and deterministic' (their statements: YtjhpjdlfdgpklaaTotals.lean).
  GIVEN WITH THE SEED: the statements are not yours to turn. If you find one false, say at which input.
  Laid BY PROGRAM, IN A SANDBOX (cutbox-rows.mjs): the forced cells as the released guide's own fill.sh prints them over the translation 1c098af90dd1313b… (all of the seat's roots in one cut). By AI agents, Wed Nov 11 2026. No macro, syntax, notation, axiom, sorry.
-/
import Derived.Test.YtjhpjdlfdgpklaaChecked
import GoSem.Claim
import GoSem.ClaimJoined
import GoSem.ClaimMapViews
import Derived.JoinedTies
import Derived.KernelRfl
namespace Go.Proofs.Ytjhpjdlfdgpklaa
/- THE CELL 'sum', in the pinned program and in every row, IS THE sha256 OF THE DUMP (.gsa) THAT YtjhpjdlfdgpklaaProg.lean LOADS. Nothing in Lean hashes anything: it is a label: what it is worth is what the hold of that sum in a sandbox is worth. -/
noncomputable def Try.pinned : Pinned := { name := "ytjhpjdlfdgpklaa", sum := "1c098af90dd1313bf475061d319196ebc619dc63d66cd731f62baac27b60d428", checked := Try.checked }
namespace Rows
def none {H : Type} : Left H := { results := [], args := [] }

/-- 'laws.FnSplitJoin': WHATEVER THE INPUT: true; the input reads as it did. -/
def fnSplitJoinSpec : ChangeSpec := { name := "fnSplitJoin", fn := fun _ => fun
  | [d] => { results := [.lit (.bool true)], args := [d] }
  | _ => none }
def fnSplitJoinRow : OpenClaim := { program := "ytjhpjdlfdgpklaa", sum := "1c098af90dd1313bf475061d319196ebc619dc63d66cd731f62baac27b60d428", func := "loop.example/g01023/laws.FnSplitJoin", spec := "fnSplitJoin", unfollowed := true, recurses := true, apart := false }
def FnSplitJoinSaid : Prop := fnSplitJoinRow.holds Try.pinned (OpenSpec.ofChange fnSplitJoinSpec)

/-- ITS FALSE NEIGHBOUR: 'it returns false'. Refute it at one input. -/
def fnSplitJoinWrong : ChangeSpec := { name := "fnSplitJoin", fn := fun _ => fun
  | [d] => { results := [.lit (.bool false)], args := [d] }
  | _ => none }
def FnSplitJoinWrongFalsely : Prop := fnSplitJoinRow.holds Try.pinned (OpenSpec.ofChange fnSplitJoinWrong)

/-- 'laws.FnCharts': WHATEVER THE INPUT: true; the input reads as it did. -/
def fnChartsSpec : ChangeSpec := { name := "fnCharts", fn := fun _ => fun
  | [d] => { results := [.lit (.bool true)], args := [d] }
  | _ => none }
def fnChartsRow : OpenClaim := { program := "ytjhpjdlfdgpklaa", sum := "1c098af90dd1313bf475061d319196ebc619dc63d66cd731f62baac27b60d428", func := "loop.example/g01023/laws.FnCharts", spec := "fnCharts", unfollowed := true, recurses := true, apart := false }
def FnChartsSaid : Prop := fnChartsRow.holds Try.pinned (OpenSpec.ofChange fnChartsSpec)

/-- ITS FALSE NEIGHBOUR: 'it returns false'. Refute it at one input. -/
def fnChartsWrong : ChangeSpec := { name := "fnCharts", fn := fun _ => fun
  | [d] => { results := [.lit (.bool false)], args := [d] }
  | _ => none }
def FnChartsWrongFalsely : Prop := fnChartsRow.holds Try.pinned (OpenSpec.ofChange fnChartsWrong)

/-- 'laws.FnParts': WHATEVER THE INPUT: true; the input reads as it did. -/
def fnPartsSpec : ChangeSpec := { name := "fnParts", fn := fun _ => fun
  | [d] => { results := [.lit (.bool true)], args := [d] }
  | _ => none }
def fnPartsRow : OpenClaim := { program := "ytjhpjdlfdgpklaa", sum := "1c098af90dd1313bf475061d319196ebc619dc63d66cd731f62baac27b60d428", func := "loop.example/g01023/laws.FnParts", spec := "fnParts", apart := false }
def FnPartsSaid : Prop := fnPartsRow.holds Try.pinned (OpenSpec.ofChange fnPartsSpec)

/-- ITS FALSE NEIGHBOUR: 'it returns false'. Refute it at one input. -/
def fnPartsWrong : ChangeSpec := { name := "fnParts", fn := fun _ => fun
  | [d] => { results := [.lit (.bool false)], args := [d] }
  | _ => none }
def FnPartsWrongFalsely : Prop := fnPartsRow.holds Try.pinned (OpenSpec.ofChange fnPartsWrong)

/-- 'laws.FnShadeCards': WHATEVER THE INPUT: true; the input reads as it did. -/
def fnShadeCardsSpec : ChangeSpec := { name := "fnShadeCards", fn := fun _ => fun
  | [d] => { results := [.lit (.bool true)], args := [d] }
  | _ => none }
def fnShadeCardsRow : OpenClaim := { program := "ytjhpjdlfdgpklaa", sum := "1c098af90dd1313bf475061d319196ebc619dc63d66cd731f62baac27b60d428", func := "loop.example/g01023/laws.FnShadeCards", spec := "fnShadeCards", apart := false }
def FnShadeCardsSaid : Prop := fnShadeCardsRow.holds Try.pinned (OpenSpec.ofChange fnShadeCardsSpec)

/-- ITS FALSE NEIGHBOUR: 'it returns false'. Refute it at one input. -/
def fnShadeCardsWrong : ChangeSpec := { name := "fnShadeCards", fn := fun _ => fun
  | [d] => { results := [.lit (.bool false)], args := [d] }
  | _ => none }
def FnShadeCardsWrongFalsely : Prop := fnShadeCardsRow.holds Try.pinned (OpenSpec.ofChange fnShadeCardsWrong)

/-- 'laws.FnExactSplitString': WHATEVER THE INPUT: true; the input reads as it did. -/
def fnExactSplitStringSpec : ChangeSpec := { name := "fnExactSplitString", fn := fun _ => fun
  | [d1, d2] => { results := [.lit (.bool true)], args := [d1, d2] }
  | _ => none }
def fnExactSplitStringRow : OpenClaim := { program := "ytjhpjdlfdgpklaa", sum := "1c098af90dd1313bf475061d319196ebc619dc63d66cd731f62baac27b60d428", func := "loop.example/g01023/laws.FnExactSplitString", spec := "fnExactSplitString", unfollowed := true, recurses := true, apart := false }
def FnExactSplitStringSaid : Prop := fnExactSplitStringRow.holds Try.pinned (OpenSpec.ofChange fnExactSplitStringSpec)

/-- ITS FALSE NEIGHBOUR: 'it returns false'. Refute it at one input. -/
def fnExactSplitStringWrong : ChangeSpec := { name := "fnExactSplitString", fn := fun _ => fun
  | [d1, d2] => { results := [.lit (.bool false)], args := [d1, d2] }
  | _ => none }
def FnExactSplitStringWrongFalsely : Prop := fnExactSplitStringRow.holds Try.pinned (OpenSpec.ofChange fnExactSplitStringWrong)

/-- 'laws.FnExactJoinStrings': WHATEVER THE INPUT: true; the input reads as it did. -/
def fnExactJoinStringsSpec : ChangeSpec := { name := "fnExactJoinStrings", fn := fun _ => fun
  | [d1, d2] => { results := [.lit (.bool true)], args := [d1, d2] }
  | _ => none }
def fnExactJoinStringsRow : OpenClaim := { program := "ytjhpjdlfdgpklaa", sum := "1c098af90dd1313bf475061d319196ebc619dc63d66cd731f62baac27b60d428", func := "loop.example/g01023/laws.FnExactJoinStrings", spec := "fnExactJoinStrings", apart := false }
def FnExactJoinStringsSaid : Prop := fnExactJoinStringsRow.holds Try.pinned (OpenSpec.ofChange fnExactJoinStringsSpec)

/-- ITS FALSE NEIGHBOUR: 'it returns false'. Refute it at one input. -/
def fnExactJoinStringsWrong : ChangeSpec := { name := "fnExactJoinStrings", fn := fun _ => fun
  | [d1, d2] => { results := [.lit (.bool false)], args := [d1, d2] }
  | _ => none }
def FnExactJoinStringsWrongFalsely : Prop := fnExactJoinStringsRow.holds Try.pinned (OpenSpec.ofChange fnExactJoinStringsWrong)

/-- 'laws.FnExactPutPart': WHATEVER THE INPUT: true; the input reads as it did. -/
def fnExactPutPartSpec : ChangeSpec := { name := "fnExactPutPart", fn := fun _ => fun
  | [d1, d2, d3, d4] => { results := [.lit (.bool true)], args := [d1, d2, d3, d4] }
  | _ => none }
def fnExactPutPartRow : OpenClaim := { program := "ytjhpjdlfdgpklaa", sum := "1c098af90dd1313bf475061d319196ebc619dc63d66cd731f62baac27b60d428", func := "loop.example/g01023/laws.FnExactPutPart", spec := "fnExactPutPart", apart := false }
def FnExactPutPartSaid : Prop := fnExactPutPartRow.holds Try.pinned (OpenSpec.ofChange fnExactPutPartSpec)

/-- ITS FALSE NEIGHBOUR: 'it returns false'. Refute it at one input. -/
def fnExactPutPartWrong : ChangeSpec := { name := "fnExactPutPart", fn := fun _ => fun
  | [d1, d2, d3, d4] => { results := [.lit (.bool false)], args := [d1, d2, d3, d4] }
  | _ => none }
def FnExactPutPartWrongFalsely : Prop := fnExactPutPartRow.holds Try.pinned (OpenSpec.ofChange fnExactPutPartWrong)

/-- 'laws.FnExactParseChart': WHATEVER THE INPUT: true; the input reads as it did. -/
def fnExactParseChartSpec : ChangeSpec := { name := "fnExactParseChart", fn := fun _ => fun
  | [d] => { results := [.lit (.bool true)], args := [d] }
  | _ => none }
def fnExactParseChartRow : OpenClaim := { program := "ytjhpjdlfdgpklaa", sum := "1c098af90dd1313bf475061d319196ebc619dc63d66cd731f62baac27b60d428", func := "loop.example/g01023/laws.FnExactParseChart", spec := "fnExactParseChart", unfollowed := true, recurses := true, apart := false }
def FnExactParseChartSaid : Prop := fnExactParseChartRow.holds Try.pinned (OpenSpec.ofChange fnExactParseChartSpec)

/-- ITS FALSE NEIGHBOUR: 'it returns false'. Refute it at one input. -/
def fnExactParseChartWrong : ChangeSpec := { name := "fnExactParseChart", fn := fun _ => fun
  | [d] => { results := [.lit (.bool false)], args := [d] }
  | _ => none }
def FnExactParseChartWrongFalsely : Prop := fnExactParseChartRow.holds Try.pinned (OpenSpec.ofChange fnExactParseChartWrong)

/-- 'laws.FnExactIsShade': WHATEVER THE INPUT: true; the input reads as it did. -/
def fnExactIsShadeSpec : ChangeSpec := { name := "fnExactIsShade", fn := fun _ => fun
  | [d] => { results := [.lit (.bool true)], args := [d] }
  | _ => none }
def fnExactIsShadeRow : OpenClaim := { program := "ytjhpjdlfdgpklaa", sum := "1c098af90dd1313bf475061d319196ebc619dc63d66cd731f62baac27b60d428", func := "loop.example/g01023/laws.FnExactIsShade", spec := "fnExactIsShade", apart := false }
def FnExactIsShadeSaid : Prop := fnExactIsShadeRow.holds Try.pinned (OpenSpec.ofChange fnExactIsShadeSpec)

/-- ITS FALSE NEIGHBOUR: 'it returns false'. Refute it at one input. -/
def fnExactIsShadeWrong : ChangeSpec := { name := "fnExactIsShade", fn := fun _ => fun
  | [d] => { results := [.lit (.bool false)], args := [d] }
  | _ => none }
def FnExactIsShadeWrongFalsely : Prop := fnExactIsShadeRow.holds Try.pinned (OpenSpec.ofChange fnExactIsShadeWrong)

/-- 'laws.FnExactIsShadeCard': WHATEVER THE INPUT: true; the input reads as it did. -/
def fnExactIsShadeCardSpec : ChangeSpec := { name := "fnExactIsShadeCard", fn := fun _ => fun
  | [d] => { results := [.lit (.bool true)], args := [d] }
  | _ => none }
def fnExactIsShadeCardRow : OpenClaim := { program := "ytjhpjdlfdgpklaa", sum := "1c098af90dd1313bf475061d319196ebc619dc63d66cd731f62baac27b60d428", func := "loop.example/g01023/laws.FnExactIsShadeCard", spec := "fnExactIsShadeCard", apart := false }
def FnExactIsShadeCardSaid : Prop := fnExactIsShadeCardRow.holds Try.pinned (OpenSpec.ofChange fnExactIsShadeCardSpec)

/-- ITS FALSE NEIGHBOUR: 'it returns false'. Refute it at one input. -/
def fnExactIsShadeCardWrong : ChangeSpec := { name := "fnExactIsShadeCard", fn := fun _ => fun
  | [d] => { results := [.lit (.bool false)], args := [d] }
  | _ => none }
def FnExactIsShadeCardWrongFalsely : Prop := fnExactIsShadeCardRow.holds Try.pinned (OpenSpec.ofChange fnExactIsShadeCardWrong)

/- THE SECOND FORM. 'bulk': how many values and letters a reading holds, each counted each time it is reached (what is shared counts as often as it is met; a slice's spare places count too). A statement '..UptoSaid' is the law's where the arguments, and the package variables that the reading takes, are together of bulk at most 1048576: NARROWER than '..Said'. Prove '..Said' where nothing that the law and all that it calls make is longer than what came in: it says more and counts as full. Else prove '..UptoSaid'. A law counts once. -/
mutual
def uptoBulk {H : Type} : DataW H → Nat
  | .lit (.string bytes) => bytes.length + 1
  | .lit _ => 1
  | .nil => 1
  | .ptr d => uptoBulk d + 1
  | .slice elems spare => uptoBulkAll elems + uptoBulkAll spare + 1
  | .agg parts => uptoBulkAll parts + 1
  | .iface _ d => uptoBulk d + 1
  | .map entries => uptoBulkEntries entries + 1
  | .held _ => 1
def uptoBulkAll {H : Type} : List (DataW H) → Nat
  | [] => 0
  | d :: r => uptoBulk d + uptoBulkAll r
def uptoBulkEntries {H : Type} : List (Lit × DataW H) → Nat
  | [] => 0
  | x :: r => uptoBulkEntry x + uptoBulkEntries r
def uptoBulkEntry {H : Type} : Lit × DataW H → Nat
  | (.string bytes, d) => bytes.length + uptoBulk d + 1
  | (_, d) => uptoBulk d + 1
 end
def uptoSmall : (H : Type) → List (DataW H) → Bool := fun _ ds => decide (uptoBulkAll ds ≤ 1048576)
def OpenSpec.upto (s : _root_.Go.ChangeSpec) : _root_.Go.OpenSpec := { _root_.Go.OpenSpec.ofChange s with cond := some uptoSmall }

/-- 'laws.FnSplitJoin', WHERE WHAT IT READS IS OF BULK AT MOST 1048576: true; the input reads as it did. -/
def fnSplitJoinUptoRow : OpenClaim := { program := "ytjhpjdlfdgpklaa", sum := "1c098af90dd1313bf475061d319196ebc619dc63d66cd731f62baac27b60d428", func := "loop.example/g01023/laws.FnSplitJoin", spec := "fnSplitJoin", unfollowed := true, recurses := true, apart := false, narrowed := true }
def FnSplitJoinUptoSaid : Prop := fnSplitJoinUptoRow.holds Try.pinned (OpenSpec.upto fnSplitJoinSpec)

/-- 'laws.FnCharts', WHERE WHAT IT READS IS OF BULK AT MOST 1048576: true; the input reads as it did. -/
def fnChartsUptoRow : OpenClaim := { program := "ytjhpjdlfdgpklaa", sum := "1c098af90dd1313bf475061d319196ebc619dc63d66cd731f62baac27b60d428", func := "loop.example/g01023/laws.FnCharts", spec := "fnCharts", unfollowed := true, recurses := true, apart := false, narrowed := true }
def FnChartsUptoSaid : Prop := fnChartsUptoRow.holds Try.pinned (OpenSpec.upto fnChartsSpec)

/-- 'laws.FnParts', WHERE WHAT IT READS IS OF BULK AT MOST 1048576: true; the input reads as it did. -/
def fnPartsUptoRow : OpenClaim := { program := "ytjhpjdlfdgpklaa", sum := "1c098af90dd1313bf475061d319196ebc619dc63d66cd731f62baac27b60d428", func := "loop.example/g01023/laws.FnParts", spec := "fnParts", apart := false, narrowed := true }
def FnPartsUptoSaid : Prop := fnPartsUptoRow.holds Try.pinned (OpenSpec.upto fnPartsSpec)

/-- 'laws.FnShadeCards', WHERE WHAT IT READS IS OF BULK AT MOST 1048576: true; the input reads as it did. -/
def fnShadeCardsUptoRow : OpenClaim := { program := "ytjhpjdlfdgpklaa", sum := "1c098af90dd1313bf475061d319196ebc619dc63d66cd731f62baac27b60d428", func := "loop.example/g01023/laws.FnShadeCards", spec := "fnShadeCards", apart := false, narrowed := true }
def FnShadeCardsUptoSaid : Prop := fnShadeCardsUptoRow.holds Try.pinned (OpenSpec.upto fnShadeCardsSpec)

/-- 'laws.FnExactSplitString', WHERE WHAT IT READS IS OF BULK AT MOST 1048576: true; the input reads as it did. -/
def fnExactSplitStringUptoRow : OpenClaim := { program := "ytjhpjdlfdgpklaa", sum := "1c098af90dd1313bf475061d319196ebc619dc63d66cd731f62baac27b60d428", func := "loop.example/g01023/laws.FnExactSplitString", spec := "fnExactSplitString", unfollowed := true, recurses := true, apart := false, narrowed := true }
def FnExactSplitStringUptoSaid : Prop := fnExactSplitStringUptoRow.holds Try.pinned (OpenSpec.upto fnExactSplitStringSpec)

/-- 'laws.FnExactJoinStrings', WHERE WHAT IT READS IS OF BULK AT MOST 1048576: true; the input reads as it did. -/
def fnExactJoinStringsUptoRow : OpenClaim := { program := "ytjhpjdlfdgpklaa", sum := "1c098af90dd1313bf475061d319196ebc619dc63d66cd731f62baac27b60d428", func := "loop.example/g01023/laws.FnExactJoinStrings", spec := "fnExactJoinStrings", apart := false, narrowed := true }
def FnExactJoinStringsUptoSaid : Prop := fnExactJoinStringsUptoRow.holds Try.pinned (OpenSpec.upto fnExactJoinStringsSpec)

/-- 'laws.FnExactPutPart', WHERE WHAT IT READS IS OF BULK AT MOST 1048576: true; the input reads as it did. -/
def fnExactPutPartUptoRow : OpenClaim := { program := "ytjhpjdlfdgpklaa", sum := "1c098af90dd1313bf475061d319196ebc619dc63d66cd731f62baac27b60d428", func := "loop.example/g01023/laws.FnExactPutPart", spec := "fnExactPutPart", apart := false, narrowed := true }
def FnExactPutPartUptoSaid : Prop := fnExactPutPartUptoRow.holds Try.pinned (OpenSpec.upto fnExactPutPartSpec)

/-- 'laws.FnExactParseChart', WHERE WHAT IT READS IS OF BULK AT MOST 1048576: true; the input reads as it did. -/
def fnExactParseChartUptoRow : OpenClaim := { program := "ytjhpjdlfdgpklaa", sum := "1c098af90dd1313bf475061d319196ebc619dc63d66cd731f62baac27b60d428", func := "loop.example/g01023/laws.FnExactParseChart", spec := "fnExactParseChart", unfollowed := true, recurses := true, apart := false, narrowed := true }
def FnExactParseChartUptoSaid : Prop := fnExactParseChartUptoRow.holds Try.pinned (OpenSpec.upto fnExactParseChartSpec)

/-- 'laws.FnExactIsShade', WHERE WHAT IT READS IS OF BULK AT MOST 1048576: true; the input reads as it did. -/
def fnExactIsShadeUptoRow : OpenClaim := { program := "ytjhpjdlfdgpklaa", sum := "1c098af90dd1313bf475061d319196ebc619dc63d66cd731f62baac27b60d428", func := "loop.example/g01023/laws.FnExactIsShade", spec := "fnExactIsShade", apart := false, narrowed := true }
def FnExactIsShadeUptoSaid : Prop := fnExactIsShadeUptoRow.holds Try.pinned (OpenSpec.upto fnExactIsShadeSpec)

/-- 'laws.FnExactIsShadeCard', WHERE WHAT IT READS IS OF BULK AT MOST 1048576: true; the input reads as it did. -/
def fnExactIsShadeCardUptoRow : OpenClaim := { program := "ytjhpjdlfdgpklaa", sum := "1c098af90dd1313bf475061d319196ebc619dc63d66cd731f62baac27b60d428", func := "loop.example/g01023/laws.FnExactIsShadeCard", spec := "fnExactIsShadeCard", apart := false, narrowed := true }
def FnExactIsShadeCardUptoSaid : Prop := fnExactIsShadeCardUptoRow.holds Try.pinned (OpenSpec.upto fnExactIsShadeCardSpec)

end Rows
end Go.Proofs.Ytjhpjdlfdgpklaa
