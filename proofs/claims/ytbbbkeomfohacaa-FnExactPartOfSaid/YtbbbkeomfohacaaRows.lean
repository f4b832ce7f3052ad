/-
  No cell of these rows narrows 'for every input' (looked for: loops, veiled, ifaces, maps, wideKeys, modest, calm, conditions, laid).
  DERIVED. THE GIVEN ROWS OF THIS SEAT. 12 by the template 'for every input the law returns true; each argument reads behind the call as it read before'; 0 by the template 'total and deterministic' (their statements: YtbbbkeomfohacaaTotals.lean).
  GIVEN WITH THE SEED: the statements are not yours to turn. If you find one false, say at which input.
  Laid BY PROGRAM, IN A SANDBOX (cutbox-rows.mjs): the forced cells as the released guide's own fill.sh prints them over the translation 4de31ee213634187… (all of the seat's roots in one cut). By AI agents, Wed Nov 11 2026. No macro, syntax, notation, axiom, sorry.
-/
import Derived.Test.YtbbbkeomfohacaaChecked
import GoSem.Claim
import GoSem.ClaimJoined
import GoSem.ClaimMapViews
import Derived.JoinedTies
import Derived.KernelRfl
namespace Go.Proofs.Ytbbbkeomfohacaa
/- THE CELL 'sum', in the pinned program and in every row, IS THE sha256 OF THE DUMP (.gsa) THAT YtbbbkeomfohacaaProg.lean LOADS. Nothing in Lean hashes anything: it is a label: what it is worth is what the hold of that sum in a sandbox is worth. -/
noncomputable def Try.pinned : Pinned := { name := "ytbbbkeomfohacaa", sum := "4de31ee21363418712e7ff2bb4f42829600b5862dac9f47f8c4c24e45cd5b114", checked := Try.checked }
namespace Rows
def none {H : Type} : Left H := { results := [], args := [] }

/-- 'laws.FnCharts': WHATEVER THE INPUT: true; the input reads as it did. -/
def fnChartsSpec : ChangeSpec := { name := "fnCharts", fn := fun _ => fun
  | [d] => { results := [.lit (.bool true)], args := [d] }
  | _ => none }
def fnChartsRow : OpenClaim := { program := "ytbbbkeomfohacaa", sum := "4de31ee21363418712e7ff2bb4f42829600b5862dac9f47f8c4c24e45cd5b114", func := "loop.example/g01023/laws.FnCharts", spec := "fnCharts", unfollowed := true, recurses := true, apart := false }
def FnChartsSaid : Prop := fnChartsRow.holds Try.pinned (OpenSpec.ofChange fnChartsSpec)

/-- ITS FALSE NEIGHBOUR: 'it returns false'. Refute it at one input. -/
def fnChartsWrong : ChangeSpec := { name := "fnCharts", fn := fun _ => fun
  | [d] => { results := [.lit (.bool false)], args := [d] }
  | _ => none }
def FnChartsWrongFalsely : Prop := fnChartsRow.holds Try.pinned (OpenSpec.ofChange fnChartsWrong)

/-- 'laws.FnParts': WHATEVER THE INPUT: true; the input reads as it did. -/
def fnPartsSpec : ChangeSpec := { name := "fnParts", fn := fun _ => fun
  | [d] => { results := [.lit (.bool true)], args := [d] }
  | _ => none }
def fnPartsRow : OpenClaim := { program := "ytbbbkeomfohacaa", sum := "4de31ee21363418712e7ff2bb4f42829600b5862dac9f47f8c4c24e45cd5b114", func := "loop.example/g01023/laws.FnParts", spec := "fnParts", apart := false }
def FnPartsSaid : Prop := fnPartsRow.holds Try.pinned (OpenSpec.ofChange fnPartsSpec)

/-- ITS FALSE NEIGHBOUR: 'it returns false'. Refute it at one input. -/
def fnPartsWrong : ChangeSpec := { name := "fnParts", fn := fun _ => fun
  | [d] => { results := [.lit (.bool false)], args := [d] }
  | _ => none }
def FnPartsWrongFalsely : Prop := fnPartsRow.holds Try.pinned (OpenSpec.ofChange fnPartsWrong)

/-- 'laws.FnExactIsChart': WHATEVER THE INPUT: true; the input reads as it did. -/
def fnExactIsChartSpec : ChangeSpec := { name := "fnExactIsChart", fn := fun _ => fun
  | [d] => { results := [.lit (.bool true)], args := [d] }
  | _ => none }
def fnExactIsChartRow : OpenClaim := { program := "ytbbbkeomfohacaa", sum := "4de31ee21363418712e7ff2bb4f42829600b5862dac9f47f8c4c24e45cd5b114", func := "loop.example/g01023/laws.FnExactIsChart", spec := "fnExactIsChart", apart := false }
def FnExactIsChartSaid : Prop := fnExactIsChartRow.holds Try.pinned (OpenSpec.ofChange fnExactIsChartSpec)

/-- ITS FALSE NEIGHBOUR: 'it returns false'. Refute it at one input. -/
def fnExactIsChartWrong : ChangeSpec := { name := "fnExactIsChart", fn := fun _ => fun
  | [d] => { results := [.lit (.bool false)], args := [d] }
  | _ => none }
def FnExactIsChartWrongFalsely : Prop := fnExactIsChartRow.holds Try.pinned (OpenSpec.ofChange fnExactIsChartWrong)

/-- 'laws.FnExactKnotAt': WHATEVER THE INPUT: true; the input reads as it did. -/
def fnExactKnotAtSpec : ChangeSpec := { name := "fnExactKnotAt", fn := fun _ => fun
  | [d1, d2, d3] => { results := [.lit (.bool true)], args := [d1, d2, d3] }
  | _ => none }
def fnExactKnotAtRow : OpenClaim := { program := "ytbbbkeomfohacaa", sum := "4de31ee21363418712e7ff2bb4f42829600b5862dac9f47f8c4c24e45cd5b114", func := "loop.example/g01023/laws.FnExactKnotAt", spec := "fnExactKnotAt", apart := false }
def FnExactKnotAtSaid : Prop := fnExactKnotAtRow.holds Try.pinned (OpenSpec.ofChange fnExactKnotAtSpec)

/-- ITS FALSE NEIGHBOUR: 'it returns false'. Refute it at one input. -/
def fnExactKnotAtWrong : ChangeSpec := { name := "fnExactKnotAt", fn := fun _ => fun
  | [d1, d2, d3] => { results := [.lit (.bool false)], args := [d1, d2, d3] }
  | _ => none }
def FnExactKnotAtWrongFalsely : Prop := fnExactKnotAtRow.holds Try.pinned (OpenSpec.ofChange fnExactKnotAtWrong)

/-- 'laws.FnExactPlainChart': WHATEVER THE INPUT: true; the input reads as it did. -/
def fnExactPlainChartSpec : ChangeSpec := { name := "fnExactPlainChart", fn := fun _ => fun
  | [d1, d2, d3] => { results := [.lit (.bool true)], args := [d1, d2, d3] }
  | _ => none }
def fnExactPlainChartRow : OpenClaim := { program := "ytbbbkeomfohacaa", sum := "4de31ee21363418712e7ff2bb4f42829600b5862dac9f47f8c4c24e45cd5b114", func := "loop.example/g01023/laws.FnExactPlainChart", spec := "fnExactPlainChart", apart := false }
def FnExactPlainChartSaid : Prop := fnExactPlainChartRow.holds Try.pinned (OpenSpec.ofChange fnExactPlainChartSpec)

/-- ITS FALSE NEIGHBOUR: 'it returns false'. Refute it at one input. -/
def fnExactPlainChartWrong : ChangeSpec := { name := "fnExactPlainChart", fn := fun _ => fun
  | [d1, d2, d3] => { results := [.lit (.bool false)], args := [d1, d2, d3] }
  | _ => none }
def FnExactPlainChartWrongFalsely : Prop := fnExactPlainChartRow.holds Try.pinned (OpenSpec.ofChange fnExactPlainChartWrong)

/-- 'laws.FnExactCountColors': WHATEVER THE INPUT: true; the input reads as it did. -/
def fnExactCountColorsSpec : ChangeSpec := { name := "fnExactCountColors", fn := fun _ => fun
  | [d] => { results := [.lit (.bool true)], args := [d] }
  | _ => none }
def fnExactCountColorsRow : OpenClaim := { program := "ytbbbkeomfohacaa", sum := "4de31ee21363418712e7ff2bb4f42829600b5862dac9f47f8c4c24e45cd5b114", func := "loop.example/g01023/laws.FnExactCountColors", spec := "fnExactCountColors", apart := false }
def FnExactCountColorsSaid : Prop := fnExactCountColorsRow.holds Try.pinned (OpenSpec.ofChange fnExactCountColorsSpec)

/-- ITS FALSE NEIGHBOUR: 'it returns false'. Refute it at one input. -/
def fnExactCountColorsWrong : ChangeSpec := { name := "fnExactCountColors", fn := fun _ => fun
  | [d] => { results := [.lit (.bool false)], args := [d] }
  | _ => none }
def FnExactCountColorsWrongFalsely : Prop := fnExactCountColorsRow.holds Try.pinned (OpenSpec.ofChange fnExactCountColorsWrong)

/-- 'laws.FnExactPartOf': WHATEVER THE INPUT: true; the input reads as it did. -/
def fnExactPartOfSpec : ChangeSpec := { name := "fnExactPartOf", fn := fun _ => fun
  | [d1, d2, d3, d4, d5] => { results := [.lit (.bool true)], args := [d1, d2, d3, d4, d5] }
  | _ => none }
def fnExactPartOfRow : OpenClaim := { program := "ytbbbkeomfohacaa", sum := "4de31ee21363418712e7ff2bb4f42829600b5862dac9f47f8c4c24e45cd5b114", func := "loop.example/g01023/laws.FnExactPartOf", spec := "fnExactPartOf", apart := false }
def FnExactPartOfSaid : Prop := fnExactPartOfRow.holds Try.pinned (OpenSpec.ofChange fnExactPartOfSpec)

/-- ITS FALSE NEIGHBOUR: 'it returns false'. Refute it at one input. -/
def fnExactPartOfWrong : ChangeSpec := { name := "fnExactPartOf", fn := fun _ => fun
  | [d1, d2, d3, d4, d5] => { results := [.lit (.bool false)], args := [d1, d2, d3, d4, d5] }
  | _ => none }
def FnExactPartOfWrongFalsely : Prop := fnExactPartOfRow.holds Try.pinned (OpenSpec.ofChange fnExactPartOfWrong)

/-- 'laws.FnExactPutPart': WHATEVER THE INPUT: true; the input reads as it did. -/
def fnExactPutPartSpec : ChangeSpec := { name := "fnExactPutPart", fn := fun _ => fun
  | [d1, d2, d3, d4] => { results := [.lit (.bool true)], args := [d1, d2, d3, d4] }
  | _ => none }
def fnExactPutPartRow : OpenClaim := { program := "ytbbbkeomfohacaa", sum := "4de31ee21363418712e7ff2bb4f42829600b5862dac9f47f8c4c24e45cd5b114", func := "loop.example/g01023/laws.FnExactPutPart", spec := "fnExactPutPart", apart := false }
def FnExactPutPartSaid : Prop := fnExactPutPartRow.holds Try.pinned (OpenSpec.ofChange fnExactPutPartSpec)

/-- ITS FALSE NEIGHBOUR: 'it returns false'. Refute it at one input. -/
def fnExactPutPartWrong : ChangeSpec := { name := "fnExactPutPart", fn := fun _ => fun
  | [d1, d2, d3, d4] => { results := [.lit (.bool false)], args := [d1, d2, d3, d4] }
  | _ => none }
def FnExactPutPartWrongFalsely : Prop := fnExactPutPartRow.holds Try.pinned (OpenSpec.ofChange fnExactPutPartWrong)

/-- 'laws.FnExactChangeColor': WHATEVER THE INPUT: true; the input reads as it did. -/
def fnExactChangeColorSpec : ChangeSpec := { name := "fnExactChangeColor", fn := fun _ => fun
  | [d1, d2, d3] => { results := [.lit (.bool true)], args := [d1, d2, d3] }
  | _ => none }
def fnExactChangeColorRow : OpenClaim := { program := "ytbbbkeomfohacaa", sum := "4de31ee21363418712e7ff2bb4f42829600b5862dac9f47f8c4c24e45cd5b114", func := "loop.example/g01023/laws.FnExactChangeColor", spec := "fnExactChangeColor", apart := false }
def FnExactChangeColorSaid : Prop := fnExactChangeColorRow.holds Try.pinned (OpenSpec.ofChange fnExactChangeColorSpec)

/-- ITS FALSE NEIGHBOUR: 'it returns false'. Refute it at one input. -/
def fnExactChangeColorWrong : ChangeSpec := { name := "fnExactChangeColor", fn := fun _ => fun
  | [d1, d2, d3] => { results := [.lit (.bool false)], args := [d1, d2, d3] }
  | _ => none }
def FnExactChangeColorWrongFalsely : Prop := fnExactChangeColorRow.holds Try.pinned (OpenSpec.ofChange fnExactChangeColorWrong)

/-- 'laws.FnExactLongestRun': WHATEVER THE INPUT: true; the input reads as it did. -/
def fnExactLongestRunSpec : ChangeSpec := { name := "fnExactLongestRun", fn := fun _ => fun
  | [d] => { results := [.lit (.bool true)], args := [d] }
  | _ => none }
def fnExactLongestRunRow : OpenClaim := { program := "ytbbbkeomfohacaa", sum := "4de31ee21363418712e7ff2bb4f42829600b5862dac9f47f8c4c24e45cd5b114", func := "loop.example/g01023/laws.FnExactLongestRun", spec := "fnExactLongestRun", apart := false }
def FnExactLongestRunSaid : Prop := fnExactLongestRunRow.holds Try.pinned (OpenSpec.ofChange fnExactLongestRunSpec)

/-- ITS FALSE NEIGHBOUR: 'it returns false'. Refute it at one input. -/
def fnExactLongestRunWrong : ChangeSpec := { name := "fnExactLongestRun", fn := fun _ => fun
  | [d] => { results := [.lit (.bool false)], args := [d] }
  | _ => none }
def FnExactLongestRunWrongFalsely : Prop := fnExactLongestRunRow.holds Try.pinned (OpenSpec.ofChange fnExactLongestRunWrong)

/-- 'laws.FnExactChartText': WHATEVER THE INPUT: true; the input reads as it did. -/
def fnExactChartTextSpec : ChangeSpec := { name := "fnExactChartText", fn := fun _ => fun
  | [d] => { results := [.lit (.bool true)], args := [d] }
  | _ => none }
def fnExactChartTextRow : OpenClaim := { program := "ytbbbkeomfohacaa", sum := "4de31ee21363418712e7ff2bb4f42829600b5862dac9f47f8c4c24e45cd5b114", func := "loop.example/g01023/laws.FnExactChartText", spec := "fnExactChartText", apart := false }
def FnExactChartTextSaid : Prop := fnExactChartTextRow.holds Try.pinned (OpenSpec.ofChange fnExactChartTextSpec)

/-- ITS FALSE NEIGHBOUR: 'it returns false'. Refute it at one input. -/
def fnExactChartTextWrong : ChangeSpec := { name := "fnExactChartText", fn := fun _ => fun
  | [d] => { results := [.lit (.bool false)], args := [d] }
  | _ => none }
def FnExactChartTextWrongFalsely : Prop := fnExactChartTextRow.holds Try.pinned (OpenSpec.ofChange fnExactChartTextWrong)

/-- 'laws.FnExactParseChart': WHATEVER THE INPUT: true; the input reads as it did. -/
def fnExactParseChartSpec : ChangeSpec := { name := "fnExactParseChart", fn := fun _ => fun
  | [d] => { results := [.lit (.bool true)], args := [d] }
  | _ => none }
def fnExactParseChartRow : OpenClaim := { program := "ytbbbkeomfohacaa", sum := "4de31ee21363418712e7ff2bb4f42829600b5862dac9f47f8c4c24e45cd5b114", func := "loop.example/g01023/laws.FnExactParseChart", spec := "fnExactParseChart", unfollowed := true, recurses := true, apart := false }
def FnExactParseChartSaid : Prop := fnExactParseChartRow.holds Try.pinned (OpenSpec.ofChange fnExactParseChartSpec)

/-- ITS FALSE NEIGHBOUR: 'it returns false'. Refute it at one input. -/
def fnExactParseChartWrong : ChangeSpec := { name := "fnExactParseChart", fn := fun _ => fun
  | [d] => { results := [.lit (.bool false)], args := [d] }
  | _ => none }
def FnExactParseChartWrongFalsely : Prop := fnExactParseChartRow.holds Try.pinned (OpenSpec.ofChange fnExactParseChartWrong)

/- THE SECOND FORM. 'bulk': how many values and letters a reading holds, each counted each time it is reached (what is shared counts as often as it is met; a slice's spare places count too). A statement '..UptoSaid' is the law's where the arguments, and the package variables that the reading takes, are together of bulk at most 1048576: NARROWER than '..Said'. Prove '..Said' where nothing that the law and all that it calls make is longer than what came in: it says more and counts as full. Else prove '..UptoSaid'. A law counts once. -/
mutual
def uptoBulk {H : Type} : DataW H → Nat
  | .lit (.string bytes) => bytes.length + 1
  | .lit _ => 1
  | .nil => 1
  | .ptr d => uptoBulk d + 1
  | .slice elems spare => uptoBulkAll elems + uptoBulkAll spare + 1
  | .agg parts => uptoBulkAll parts + 1
  | .iface _ d => uptoBulk d + 1
  | .map entries => uptoBulkEntries entries + 1
  | .held _ => 1
def uptoBulkAll {H : Type} : List (DataW H) → Nat
  | [] => 0
  | d :: r => uptoBulk d + uptoBulkAll r
def uptoBulkEntries {H : Type} : List (Lit × DataW H) → Nat
  | [] => 0
  | x :: r => uptoBulkEntry x + uptoBulkEntries r
def uptoBulkEntry {H : Type} : Lit × DataW H → Nat
  | (.string bytes, d) => bytes.length + uptoBulk d + 1
  | (_, d) => uptoBulk d + 1
 end
def uptoSmall : (H : Type) → List (DataW H) → Bool := fun _ ds => decide (uptoBulkAll ds ≤ 1048576)
def OpenSpec.upto (s : _root_.Go.ChangeSpec) : _root_.Go.OpenSpec := { _root_.Go.OpenSpec.ofChange s with cond := some uptoSmall }

/-- 'laws.FnCharts', WHERE WHAT IT READS IS OF BULK AT MOST 1048576: true; the input reads as it did. -/
def fnChartsUptoRow : OpenClaim := { program := "ytbbbkeomfohacaa", sum := "4de31ee21363418712e7ff2bb4f42829600b5862dac9f47f8c4c24e45cd5b114", func := "loop.example/g01023/laws.FnCharts", spec := "fnCharts", unfollowed := true, recurses := true, apart := false, narrowed := true }
def FnChartsUptoSaid : Prop := fnChartsUptoRow.holds Try.pinned (OpenSpec.upto fnChartsSpec)

/-- 'laws.FnParts', WHERE WHAT IT READS IS OF BULK AT MOST 1048576: true; the input reads as it did. -/
def fnPartsUptoRow : OpenClaim := { program := "ytbbbkeomfohacaa", sum := "4de31ee21363418712e7ff2bb4f42829600b5862dac9f47f8c4c24e45cd5b114", func := "loop.example/g01023/laws.FnParts", spec := "fnParts", apart := false, narrowed := true }
def FnPartsUptoSaid : Prop := fnPartsUptoRow.holds Try.pinned (OpenSpec.upto fnPartsSpec)

/-- 'laws.FnExactIsChart', WHERE WHAT IT READS IS OF BULK AT MOST 1048576: true; the input reads as it did. -/
def fnExactIsChartUptoRow : OpenClaim := { program := "ytbbbkeomfohacaa", sum := "4de31ee21363418712e7ff2bb4f42829600b5862dac9f47f8c4c24e45cd5b114", func := "loop.example/g01023/laws.FnExactIsChart", spec := "fnExactIsChart", apart := false, narrowed := true }
def FnExactIsChartUptoSaid : Prop := fnExactIsChartUptoRow.holds Try.pinned (OpenSpec.upto fnExactIsChartSpec)

/-- 'laws.FnExactKnotAt', WHERE WHAT IT READS IS OF BULK AT MOST 1048576: true; the input reads as it did. -/
def fnExactKnotAtUptoRow : OpenClaim := { program := "ytbbbkeomfohacaa", sum := "4de31ee21363418712e7ff2bb4f42829600b5862dac9f47f8c4c24e45cd5b114", func := "loop.example/g01023/laws.FnExactKnotAt", spec := "fnExactKnotAt", apart := false, narrowed := true }
def FnExactKnotAtUptoSaid : Prop := fnExactKnotAtUptoRow.holds Try.pinned (OpenSpec.upto fnExactKnotAtSpec)

/-- 'laws.FnExactPlainChart', WHERE WHAT IT READS IS OF BULK AT MOST 1048576: true; the input reads as it did. -/
def fnExactPlainChartUptoRow : OpenClaim := { program := "ytbbbkeomfohacaa", sum := "4de31ee21363418712e7ff2bb4f42829600b5862dac9f47f8c4c24e45cd5b114", func := "loop.example/g01023/laws.FnExactPlainChart", spec := "fnExactPlainChart", apart := false, narrowed := true }
def FnExactPlainChartUptoSaid : Prop := fnExactPlainChartUptoRow.holds Try.pinned (OpenSpec.upto fnExactPlainChartSpec)

/-- 'laws.FnExactCountColors', WHERE WHAT IT READS IS OF BULK AT MOST 1048576: true; the input reads as it did. -/
def fnExactCountColorsUptoRow : OpenClaim := { program := "ytbbbkeomfohacaa", sum := "4de31ee21363418712e7ff2bb4f42829600b5862dac9f47f8c4c24e45cd5b114", func := "loop.example/g01023/laws.FnExactCountColors", spec := "fnExactCountColors", apart := false, narrowed := true }
def FnExactCountColorsUptoSaid : Prop := fnExactCountColorsUptoRow.holds Try.pinned (OpenSpec.upto fnExactCountColorsSpec)

/-- 'laws.FnExactPartOf', WHERE WHAT IT READS IS OF BULK AT MOST 1048576: true; the input reads as it did. -/
def fnExactPartOfUptoRow : OpenClaim := { program := "ytbbbkeomfohacaa", sum := "4de31ee21363418712e7ff2bb4f42829600b5862dac9f47f8c4c24e45cd5b114", func := "loop.example/g01023/laws.FnExactPartOf", spec := "fnExactPartOf", apart := false, narrowed := true }
def FnExactPartOfUptoSaid : Prop := fnExactPartOfUptoRow.holds Try.pinned (OpenSpec.upto fnExactPartOfSpec)

/-- 'laws.FnExactPutPart', WHERE WHAT IT READS IS OF BULK AT MOST 1048576: true; the input reads as it did. -/
def fnExactPutPartUptoRow : OpenClaim := { program := "ytbbbkeomfohacaa", sum := "4de31ee21363418712e7ff2bb4f42829600b5862dac9f47f8c4c24e45cd5b114", func := "loop.example/g01023/laws.FnExactPutPart", spec := "fnExactPutPart", apart := false, narrowed := true }
def FnExactPutPartUptoSaid : Prop := fnExactPutPartUptoRow.holds Try.pinned (OpenSpec.upto fnExactPutPartSpec)

/-- 'laws.FnExactChangeColor', WHERE WHAT IT READS IS OF BULK AT MOST 1048576: true; the input reads as it did. -/
def fnExactChangeColorUptoRow : OpenClaim := { program := "ytbbbkeomfohacaa", sum := "4de31ee21363418712e7ff2bb4f42829600b5862dac9f47f8c4c24e45cd5b114", func := "loop.example/g01023/laws.FnExactChangeColor", spec := "fnExactChangeColor", apart := false, narrowed := true }
def FnExactChangeColorUptoSaid : Prop := fnExactChangeColorUptoRow.holds Try.pinned (OpenSpec.upto fnExactChangeColorSpec)

/-- 'laws.FnExactLongestRun', WHERE WHAT IT READS IS OF BULK AT MOST 1048576: true; the input reads as it did. -/
def fnExactLongestRunUptoRow : OpenClaim := { program := "ytbbbkeomfohacaa", sum := "4de31ee21363418712e7ff2bb4f42829600b5862dac9f47f8c4c24e45cd5b114", func := "loop.example/g01023/laws.FnExactLongestRun", spec := "fnExactLongestRun", apart := false, narrowed := true }
def FnExactLongestRunUptoSaid : Prop := fnExactLongestRunUptoRow.holds Try.pinned (OpenSpec.upto fnExactLongestRunSpec)

/-- 'laws.FnExactChartText', WHERE WHAT IT READS IS OF BULK AT MOST 1048576: true; the input reads as it did. -/
def fnExactChartTextUptoRow : OpenClaim := { program := "ytbbbkeomfohacaa", sum := "4de31ee21363418712e7ff2bb4f42829600b5862dac9f47f8c4c24e45cd5b114", func := "loop.example/g01023/laws.FnExactChartText", spec := "fnExactChartText", apart := false, narrowed := true }
def FnExactChartTextUptoSaid : Prop := fnExactChartTextUptoRow.holds Try.pinned (OpenSpec.upto fnExactChartTextSpec)

/-- 'laws.FnExactParseChart', WHERE WHAT IT READS IS OF BULK AT MOST 1048576: true; the input reads as it did. -/
def fnExactParseChartUptoRow : OpenClaim := { program := "ytbbbkeomfohacaa", sum := "4de31ee21363418712e7ff2bb4f42829600b5862dac9f47f8c4c24e45cd5b114", func := "loop.example/g01023/laws.FnExactParseChart", spec := "fnExactParseChart", unfollowed := true, recurses := true, apart := false, narrowed := true }
def FnExactParseChartUptoSaid : Prop := fnExactParseChartUptoRow.holds Try.pinned (OpenSpec.upto fnExactParseChartSpec)

end Rows
end Go.Proofs.Ytbbbkeomfohacaa
