/-
  No cell of these rows narrows 'for every input' (looked for: loops, veiled, ifaces, maps, wideKeys, modest, calm, conditions, laid).
  DERIVED. THE GIVEN ROWS OF THIS SEAT. 7 by the template 'for every input the law returns true; each argument reads behind the call as it read before'; 0 by the template 'total and deterministic' (their statements: YthipjclkmalmcaaTotals.lean).
  GIVEN WITH THE SEED: the statements are not yours to turn. If you find one false, say at which input.
  Laid BY PROGRAM, IN A SANDBOX (cutbox-rows.mjs): the forced cells as the released guide's own fill.sh prints them over the translation d1da14ef9c0909a3… (all of the seat's roots in one cut). By AI agents, Wed Nov 11 2026. No macro, syntax, notation, axiom, sorry.
-/
import Derived.Test.YthipjclkmalmcaaChecked
import GoSem.Claim
import GoSem.ClaimJoined
import GoSem.ClaimMapViews
import Derived.JoinedTies
import Derived.KernelRfl
namespace Go.Proofs.Ythipjclkmalmcaa
/- THE CELL 'sum', in the pinned program and in every row, IS THE sha256 OF THE DUMP (.gsa) THAT YthipjclkmalmcaaProg.lean LOADS. Nothing in Lean hashes anything: it is a label: what it is worth is what the hold of that sum in a sandbox is worth. -/
noncomputable def Try.pinned : Pinned := { name := "ythipjclkmalmcaa", sum := "d1da14ef9c0909a35886b69b9536a4a68921633412c9fd9a7e7fd6f00e372865", checked := Try.checked }
namespace Rows
def none {H : Type} : Left H := { results := [], args := [] }

/-- 'laws.FnExactSplitString': WHATEVER THE INPUT: true; the input reads as it did. -/
def fnExactSplitStringSpec : ChangeSpec := { name := "fnExactSplitString", fn := fun _ => fun
  | [d1, d2] => { results := [.lit (.bool true)], args := [d1, d2] }
  | _ => none }
def fnExactSplitStringRow : OpenClaim := { program := "ythipjclkmalmcaa", sum := "d1da14ef9c0909a35886b69b9536a4a68921633412c9fd9a7e7fd6f00e372865", func := "loop.example/g01023/laws.FnExactSplitString", spec := "fnExactSplitString", unfollowed := true, recurses := true, apart := false }
def FnExactSplitStringSaid : Prop := fnExactSplitStringRow.holds Try.pinned (OpenSpec.ofChange fnExactSplitStringSpec)

/-- ITS FALSE NEIGHBOUR: 'it returns false'. Refute it at one input. -/
def fnExactSplitStringWrong : ChangeSpec := { name := "fnExactSplitString", fn := fun _ => fun
  | [d1, d2] => { results := [.lit (.bool false)], args := [d1, d2] }
  | _ => none }
def FnExactSplitStringWrongFalsely : Prop := fnExactSplitStringRow.holds Try.pinned (OpenSpec.ofChange fnExactSplitStringWrong)

/-- 'laws.FnExactJoinStrings': WHATEVER THE INPUT: true; the input reads as it did. -/
def fnExactJoinStringsSpec : ChangeSpec := { name := "fnExactJoinStrings", fn := fun _ => fun
  | [d1, d2] => { results := [.lit (.bool true)], args := [d1, d2] }
  | _ => none }
def fnExactJoinStringsRow : OpenClaim := { program := "ythipjclkmalmcaa", sum := "d1da14ef9c0909a35886b69b9536a4a68921633412c9fd9a7e7fd6f00e372865", func := "loop.example/g01023/laws.FnExactJoinStrings", spec := "fnExactJoinStrings", apart := false }
def FnExactJoinStringsSaid : Prop := fnExactJoinStringsRow.holds Try.pinned (OpenSpec.ofChange fnExactJoinStringsSpec)

/-- ITS FALSE NEIGHBOUR: 'it returns false'. Refute it at one input. -/
def fnExactJoinStringsWrong : ChangeSpec := { name := "fnExactJoinStrings", fn := fun _ => fun
  | [d1, d2] => { results := [.lit (.bool false)], args := [d1, d2] }
  | _ => none }
def FnExactJoinStringsWrongFalsely : Prop := fnExactJoinStringsRow.holds Try.pinned (OpenSpec.ofChange fnExactJoinStringsWrong)

/-- 'laws.FnExactPutPart': WHATEVER THE INPUT: true; the input reads as it did. -/
def fnExactPutPartSpec : ChangeSpec := { name := "fnExactPutPart", fn := fun _ => fun
  | [d1, d2, d3, d4] => { results := [.lit (.bool true)], args := [d1, d2, d3, d4] }
  | _ => none }
def fnExactPutPartRow : OpenClaim := { program := "ythipjclkmalmcaa", sum := "d1da14ef9c0909a35886b69b9536a4a68921633412c9fd9a7e7fd6f00e372865", func := "loop.example/g01023/laws.FnExactPutPart", spec := "fnExactPutPart", apart := false }
def FnExactPutPartSaid : Prop := fnExactPutPartRow.holds Try.pinned (OpenSpec.ofChange fnExactPutPartSpec)

/-- ITS FALSE NEIGHBOUR: 'it returns false'. Refute it at one input. -/
def fnExactPutPartWrong : ChangeSpec := { name := "fnExactPutPart", fn := fun _ => fun
  | [d1, d2, d3, d4] => { results := [.lit (.bool false)], args := [d1, d2, d3, d4] }
  | _ => none }
def FnExactPutPartWrongFalsely : Prop := fnExactPutPartRow.holds Try.pinned (OpenSpec.ofChange fnExactPutPartWrong)

/-- 'laws.FnExactParseChart': WHATEVER THE INPUT: true; the input reads as it did. -/
def fnExactParseChartSpec : ChangeSpec := { name := "fnExactParseChart", fn := fun _ => fun
  | [d] => { results := [.lit (.bool true)], args := [d] }
  | _ => none }
def fnExactParseChartRow : OpenClaim := { program := "ythipjclkmalmcaa", sum := "d1da14ef9c0909a35886b69b9536a4a68921633412c9fd9a7e7fd6f00e372865", func := "loop.example/g01023/laws.FnExactParseChart", spec := "fnExactParseChart", unfollowed := true, recurses := true, apart := false }
def FnExactParseChartSaid : Prop := fnExactParseChartRow.holds Try.pinned (OpenSpec.ofChange fnExactParseChartSpec)

/-- ITS FALSE NEIGHBOUR: 'it returns false'. Refute it at one input. -/
def fnExactParseChartWrong : ChangeSpec := { name := "fnExactParseChart", fn := fun _ => fun
  | [d] => { results := [.lit (.bool false)], args := [d] }
  | _ => none }
def FnExactParseChartWrongFalsely : Prop := fnExactParseChartRow.holds Try.pinned (OpenSpec.ofChange fnExactParseChartWrong)

/-- 'laws.FnExactFadedApart': WHATEVER THE INPUT: true; the input reads as it did. -/
def fnExactFadedApartSpec : ChangeSpec := { name := "fnExactFadedApart", fn := fun _ => fun
  | [d1, d2, d3] => { results := [.lit (.bool true)], args := [d1, d2, d3] }
  | _ => none }
def fnExactFadedApartRow : OpenClaim := { program := "ythipjclkmalmcaa", sum := "d1da14ef9c0909a35886b69b9536a4a68921633412c9fd9a7e7fd6f00e372865", func := "loop.example/g01023/laws.FnExactFadedApart", spec := "fnExactFadedApart", apart := false }
def FnExactFadedApartSaid : Prop := fnExactFadedApartRow.holds Try.pinned (OpenSpec.ofChange fnExactFadedApartSpec)

/-- ITS FALSE NEIGHBOUR: 'it returns false'. Refute it at one input. -/
def fnExactFadedApartWrong : ChangeSpec := { name := "fnExactFadedApart", fn := fun _ => fun
  | [d1, d2, d3] => { results := [.lit (.bool false)], args := [d1, d2, d3] }
  | _ => none }
def FnExactFadedApartWrongFalsely : Prop := fnExactFadedApartRow.holds Try.pinned (OpenSpec.ofChange fnExactFadedApartWrong)

/-- 'laws.FnExactTriadsOf': WHATEVER THE INPUT: true; the input reads as it did. -/
def fnExactTriadsOfSpec : ChangeSpec := { name := "fnExactTriadsOf", fn := fun _ => fun
  | [d1, d2] => { results := [.lit (.bool true)], args := [d1, d2] }
  | _ => none }
def fnExactTriadsOfRow : OpenClaim := { program := "ythipjclkmalmcaa", sum := "d1da14ef9c0909a35886b69b9536a4a68921633412c9fd9a7e7fd6f00e372865", func := "loop.example/g01023/laws.FnExactTriadsOf", spec := "fnExactTriadsOf", apart := false }
def FnExactTriadsOfSaid : Prop := fnExactTriadsOfRow.holds Try.pinned (OpenSpec.ofChange fnExactTriadsOfSpec)

/-- ITS FALSE NEIGHBOUR: 'it returns false'. Refute it at one input. -/
def fnExactTriadsOfWrong : ChangeSpec := { name := "fnExactTriadsOf", fn := fun _ => fun
  | [d1, d2] => { results := [.lit (.bool false)], args := [d1, d2] }
  | _ => none }
def FnExactTriadsOfWrongFalsely : Prop := fnExactTriadsOfRow.holds Try.pinned (OpenSpec.ofChange fnExactTriadsOfWrong)

/-- 'laws.FnExactWheelOrder': WHATEVER THE INPUT: true; the input reads as it did. -/
def fnExactWheelOrderSpec : ChangeSpec := { name := "fnExactWheelOrder", fn := fun _ => fun
  | [d1, d2] => { results := [.lit (.bool true)], args := [d1, d2] }
  | _ => none }
def fnExactWheelOrderRow : OpenClaim := { program := "ythipjclkmalmcaa", sum := "d1da14ef9c0909a35886b69b9536a4a68921633412c9fd9a7e7fd6f00e372865", func := "loop.example/g01023/laws.FnExactWheelOrder", spec := "fnExactWheelOrder", unfollowed := true, recurses := true, apart := false }
def FnExactWheelOrderSaid : Prop := fnExactWheelOrderRow.holds Try.pinned (OpenSpec.ofChange fnExactWheelOrderSpec)

/-- ITS FALSE NEIGHBOUR: 'it returns false'. Refute it at one input. -/
def fnExactWheelOrderWrong : ChangeSpec := { name := "fnExactWheelOrder", fn := fun _ => fun
  | [d1, d2] => { results := [.lit (.bool false)], args := [d1, d2] }
  | _ => none }
def FnExactWheelOrderWrongFalsely : Prop := fnExactWheelOrderRow.holds Try.pinned (OpenSpec.ofChange fnExactWheelOrderWrong)

/- THE SECOND FORM. 'bulk': how many values and letters a reading holds, each counted each time it is reached (what is shared counts as often as it is met; a slice's spare places count too). A statement '..UptoSaid' is the law's where the arguments, and the package variables that the reading takes, are together of bulk at most 1048576: NARROWER than '..Said'. Prove '..Said' where nothing that the law and all that it calls make is longer than what came in: it says more and counts as full. Else prove '..UptoSaid'. A law counts once. -/
mutual
def uptoBulk {H : Type} : DataW H → Nat
  | .lit (.string bytes) => bytes.length + 1
  | .lit _ => 1
  | .nil => 1
  | .ptr d => uptoBulk d + 1
  | .slice elems spare => uptoBulkAll elems + uptoBulkAll spare + 1
  | .agg parts => uptoBulkAll parts + 1
  | .iface _ d => uptoBulk d + 1
  | .map entries => uptoBulkEntries entries + 1
  | .held _ => 1
def uptoBulkAll {H : Type} : List (DataW H) → Nat
  | [] => 0
  | d :: r => uptoBulk d + uptoBulkAll r
def uptoBulkEntries {H : Type} : List (Lit × DataW H) → Nat
  | [] => 0
  | x :: r => uptoBulkEntry x + uptoBulkEntries r
def uptoBulkEntry {H : Type} : Lit × DataW H → Nat
  | (.string bytes, d) => bytes.length + uptoBulk d + 1
  | (_, d) => uptoBulk d + 1
 end
def uptoSmall : (H : Type) → List (DataW H) → Bool := fun _ ds => decide (uptoBulkAll ds ≤ 1048576)
def OpenSpec.upto (s : _root_.Go.ChangeSpec) : _root_.Go.OpenSpec := { _root_.Go.OpenSpec.ofChange s with cond := some uptoSmall }

/-- 'laws.FnExactSplitString', WHERE WHAT IT READS IS OF BULK AT MOST 1048576: true; the input reads as it did. -/
def fnExactSplitStringUptoRow : OpenClaim := { program := "ythipjclkmalmcaa", sum := "d1da14ef9c0909a35886b69b9536a4a68921633412c9fd9a7e7fd6f00e372865", func := "loop.example/g01023/laws.FnExactSplitString", spec := "fnExactSplitString", unfollowed := true, recurses := true, apart := false, narrowed := true }
def FnExactSplitStringUptoSaid : Prop := fnExactSplitStringUptoRow.holds Try.pinned (OpenSpec.upto fnExactSplitStringSpec)

/-- 'laws.FnExactJoinStrings', WHERE WHAT IT READS IS OF BULK AT MOST 1048576: true; the input reads as it did. -/
def fnExactJoinStringsUptoRow : OpenClaim := { program := "ythipjclkmalmcaa", sum := "d1da14ef9c0909a35886b69b9536a4a68921633412c9fd9a7e7fd6f00e372865", func := "loop.example/g01023/laws.FnExactJoinStrings", spec := "fnExactJoinStrings", apart := false, narrowed := true }
def FnExactJoinStringsUptoSaid : Prop := fnExactJoinStringsUptoRow.holds Try.pinned (OpenSpec.upto fnExactJoinStringsSpec)

/-- 'laws.FnExactPutPart', WHERE WHAT IT READS IS OF BULK AT MOST 1048576: true; the input reads as it did. -/
def fnExactPutPartUptoRow : OpenClaim := { program := "ythipjclkmalmcaa", sum := "d1da14ef9c0909a35886b69b9536a4a68921633412c9fd9a7e7fd6f00e372865", func := "loop.example/g01023/laws.FnExactPutPart", spec := "fnExactPutPart", apart := false, narrowed := true }
def FnExactPutPartUptoSaid : Prop := fnExactPutPartUptoRow.holds Try.pinned (OpenSpec.upto fnExactPutPartSpec)

/-- 'laws.FnExactParseChart', WHERE WHAT IT READS IS OF BULK AT MOST 1048576: true; the input reads as it did. -/
def fnExactParseChartUptoRow : OpenClaim := { program := "ythipjclkmalmcaa", sum := "d1da14ef9c0909a35886b69b9536a4a68921633412c9fd9a7e7fd6f00e372865", func := "loop.example/g01023/laws.FnExactParseChart", spec := "fnExactParseChart", unfollowed := true, recurses := true, apart := false, narrowed := true }
def FnExactParseChartUptoSaid : Prop := fnExactParseChartUptoRow.holds Try.pinned (OpenSpec.upto fnExactParseChartSpec)

/-- 'laws.FnExactFadedApart', WHERE WHAT IT READS IS OF BULK AT MOST 1048576: true; the input reads as it did. -/
def fnExactFadedApartUptoRow : OpenClaim := { program := "ythipjclkmalmcaa", sum := "d1da14ef9c0909a35886b69b9536a4a68921633412c9fd9a7e7fd6f00e372865", func := "loop.example/g01023/laws.FnExactFadedApart", spec := "fnExactFadedApart", apart := false, narrowed := true }
def FnExactFadedApartUptoSaid : Prop := fnExactFadedApartUptoRow.holds Try.pinned (OpenSpec.upto fnExactFadedApartSpec)

/-- 'laws.FnExactTriadsOf', WHERE WHAT IT READS IS OF BULK AT MOST 1048576: true; the input reads as it did. -/
def fnExactTriadsOfUptoRow : OpenClaim := { program := "ythipjclkmalmcaa", sum := "d1da14ef9c0909a35886b69b9536a4a68921633412c9fd9a7e7fd6f00e372865", func := "loop.example/g01023/laws.FnExactTriadsOf", spec := "fnExactTriadsOf", apart := false, narrowed := true }
def FnExactTriadsOfUptoSaid : Prop := fnExactTriadsOfUptoRow.holds Try.pinned (OpenSpec.upto fnExactTriadsOfSpec)

/-- 'laws.FnExactWheelOrder', WHERE WHAT IT READS IS OF BULK AT MOST 1048576: true; the input reads as it did. -/
def fnExactWheelOrderUptoRow : OpenClaim := { program := "ythipjclkmalmcaa", sum := "d1da14ef9c0909a35886b69b9536a4a68921633412c9fd9a7e7fd6f00e372865", func := "loop.example/g01023/laws.FnExactWheelOrder", spec := "fnExactWheelOrder", unfollowed := true, recurses := true, apart := false, narrowed := true }
def FnExactWheelOrderUptoSaid : Prop := fnExactWheelOrderUptoRow.holds Try.pinned (OpenSpec.upto fnExactWheelOrderSpec)

end Rows
end Go.Proofs.Ythipjclkmalmcaa
