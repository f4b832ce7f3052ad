/-
  No cell of these rows narrows 'for every input' (looked for: loops, veiled, ifaces, maps, wideKeys, modest, calm, conditions, laid).
  DERIVED. THE GIVEN ROWS OF THIS SEAT. 10 by the template 'for every input the law returns true; each argument reads behind the call as it read before'; 0 by the template 'total and deterministic' (their statements: YthaghophlfbobaaTotals.lean).
  GIVEN WITH THE SEED: the statements are not yours to turn. If you find one false, say at which input.
  Laid BY PROGRAM, IN A SANDBOX (cutbox-rows.mjs): the forced cells as the released guide's own fill.sh prints them over the translation 804c5431183e9e7e… (all of the seat's roots in one cut). By AI agents, Wed Nov 11 2026. No macro, syntax, notation, axiom, sorry.
-/
import Derived.Test.YthaghophlfbobaaChecked
import GoSem.Claim
import GoSem.ClaimJoined
import GoSem.ClaimMapViews
import Derived.JoinedTies
import Derived.KernelRfl
namespace Go.Proofs.Ythaghophlfbobaa
/- THE CELL 'sum', in the pinned program and in every row, IS THE sha256 OF THE DUMP (.gsa) THAT YthaghophlfbobaaProg.lean LOADS. Nothing in Lean hashes anything: it is a label: what it is worth is what the hold of that sum in a sandbox is worth. -/
noncomputable def Try.pinned : Pinned := { name := "ythaghophlfbobaa", sum := "804c5431183e9e7eff1f251205c9d831fbbb6d70d3ef841163092ec511b231bc", checked := Try.checked }
namespace Rows
def none {H : Type} : Left H := { results := [], args := [] }

/-- 'laws.FnExactIsWorkSheet': WHATEVER THE INPUT: true; the input reads as it did. -/
def fnExactIsWorkSheetSpec : ChangeSpec := { name := "fnExactIsWorkSheet", fn := fun _ => fun
  | [d] => { results := [.lit (.bool true)], args := [d] }
  | _ => none }
def fnExactIsWorkSheetRow : OpenClaim := { program := "ythaghophlfbobaa", sum := "804c5431183e9e7eff1f251205c9d831fbbb6d70d3ef841163092ec511b231bc", func := "loop.example/g01023/laws.FnExactIsWorkSheet", spec := "fnExactIsWorkSheet", apart := false }
def FnExactIsWorkSheetSaid : Prop := fnExactIsWorkSheetRow.holds Try.pinned (OpenSpec.ofChange fnExactIsWorkSheetSpec)

/-- ITS FALSE NEIGHBOUR: 'it returns false'. Refute it at one input. -/
def fnExactIsWorkSheetWrong : ChangeSpec := { name := "fnExactIsWorkSheet", fn := fun _ => fun
  | [d] => { results := [.lit (.bool false)], args := [d] }
  | _ => none }
def FnExactIsWorkSheetWrongFalsely : Prop := fnExactIsWorkSheetRow.holds Try.pinned (OpenSpec.ofChange fnExactIsWorkSheetWrong)

/-- 'laws.FnExactAreSheets': WHATEVER THE INPUT: true; the input reads as it did. -/
def fnExactAreSheetsSpec : ChangeSpec := { name := "fnExactAreSheets", fn := fun _ => fun
  | [d] => { results := [.lit (.bool true)], args := [d] }
  | _ => none }
def fnExactAreSheetsRow : OpenClaim := { program := "ythaghophlfbobaa", sum := "804c5431183e9e7eff1f251205c9d831fbbb6d70d3ef841163092ec511b231bc", func := "loop.example/g01023/laws.FnExactAreSheets", spec := "fnExactAreSheets", apart := false }
def FnExactAreSheetsSaid : Prop := fnExactAreSheetsRow.holds Try.pinned (OpenSpec.ofChange fnExactAreSheetsSpec)

/-- ITS FALSE NEIGHBOUR: 'it returns false'. Refute it at one input. -/
def fnExactAreSheetsWrong : ChangeSpec := { name := "fnExactAreSheets", fn := fun _ => fun
  | [d] => { results := [.lit (.bool false)], args := [d] }
  | _ => none }
def FnExactAreSheetsWrongFalsely : Prop := fnExactAreSheetsRow.holds Try.pinned (OpenSpec.ofChange fnExactAreSheetsWrong)

/-- 'laws.FnExactAreRates': WHATEVER THE INPUT: true; the input reads as it did. -/
def fnExactAreRatesSpec : ChangeSpec := { name := "fnExactAreRates", fn := fun _ => fun
  | [d] => { results := [.lit (.bool true)], args := [d] }
  | _ => none }
def fnExactAreRatesRow : OpenClaim := { program := "ythaghophlfbobaa", sum := "804c5431183e9e7eff1f251205c9d831fbbb6d70d3ef841163092ec511b231bc", func := "loop.example/g01023/laws.FnExactAreRates", spec := "fnExactAreRates", apart := false }
def FnExactAreRatesSaid : Prop := fnExactAreRatesRow.holds Try.pinned (OpenSpec.ofChange fnExactAreRatesSpec)

/-- ITS FALSE NEIGHBOUR: 'it returns false'. Refute it at one input. -/
def fnExactAreRatesWrong : ChangeSpec := { name := "fnExactAreRates", fn := fun _ => fun
  | [d] => { results := [.lit (.bool false)], args := [d] }
  | _ => none }
def FnExactAreRatesWrongFalsely : Prop := fnExactAreRatesRow.holds Try.pinned (OpenSpec.ofChange fnExactAreRatesWrong)

/-- 'laws.FnExactWageOf': WHATEVER THE INPUT: true; the input reads as it did. -/
def fnExactWageOfSpec : ChangeSpec := { name := "fnExactWageOf", fn := fun _ => fun
  | [d1, d2] => { results := [.lit (.bool true)], args := [d1, d2] }
  | _ => none }
def fnExactWageOfRow : OpenClaim := { program := "ythaghophlfbobaa", sum := "804c5431183e9e7eff1f251205c9d831fbbb6d70d3ef841163092ec511b231bc", func := "loop.example/g01023/laws.FnExactWageOf", spec := "fnExactWageOf", apart := false }
def FnExactWageOfSaid : Prop := fnExactWageOfRow.holds Try.pinned (OpenSpec.ofChange fnExactWageOfSpec)

/-- ITS FALSE NEIGHBOUR: 'it returns false'. Refute it at one input. -/
def fnExactWageOfWrong : ChangeSpec := { name := "fnExactWageOf", fn := fun _ => fun
  | [d1, d2] => { results := [.lit (.bool false)], args := [d1, d2] }
  | _ => none }
def FnExactWageOfWrongFalsely : Prop := fnExactWageOfRow.holds Try.pinned (OpenSpec.ofChange fnExactWageOfWrong)

/-- 'laws.FnExactWagesBetween': WHATEVER THE INPUT: true; the input reads as it did. -/
def fnExactWagesBetweenSpec : ChangeSpec := { name := "fnExactWagesBetween", fn := fun _ => fun
  | [d1, d2, d3, d4, d5] => { results := [.lit (.bool true)], args := [d1, d2, d3, d4, d5] }
  | _ => none }
def fnExactWagesBetweenRow : OpenClaim := { program := "ythaghophlfbobaa", sum := "804c5431183e9e7eff1f251205c9d831fbbb6d70d3ef841163092ec511b231bc", func := "loop.example/g01023/laws.FnExactWagesBetween", spec := "fnExactWagesBetween", apart := false }
def FnExactWagesBetweenSaid : Prop := fnExactWagesBetweenRow.holds Try.pinned (OpenSpec.ofChange fnExactWagesBetweenSpec)

/-- ITS FALSE NEIGHBOUR: 'it returns false'. Refute it at one input. -/
def fnExactWagesBetweenWrong : ChangeSpec := { name := "fnExactWagesBetween", fn := fun _ => fun
  | [d1, d2, d3, d4, d5] => { results := [.lit (.bool false)], args := [d1, d2, d3, d4, d5] }
  | _ => none }
def FnExactWagesBetweenWrongFalsely : Prop := fnExactWagesBetweenRow.holds Try.pinned (OpenSpec.ofChange fnExactWagesBetweenWrong)

/-- 'laws.FnExactPayRoll': WHATEVER THE INPUT: true; the input reads as it did. -/
def fnExactPayRollSpec : ChangeSpec := { name := "fnExactPayRoll", fn := fun _ => fun
  | [d1, d2] => { results := [.lit (.bool true)], args := [d1, d2] }
  | _ => none }
def fnExactPayRollRow : OpenClaim := { program := "ythaghophlfbobaa", sum := "804c5431183e9e7eff1f251205c9d831fbbb6d70d3ef841163092ec511b231bc", func := "loop.example/g01023/laws.FnExactPayRoll", spec := "fnExactPayRoll", recurses := true, apart := false }
def FnExactPayRollSaid : Prop := fnExactPayRollRow.holds Try.pinned (OpenSpec.ofChange fnExactPayRollSpec)

/-- ITS FALSE NEIGHBOUR: 'it returns false'. Refute it at one input. -/
def fnExactPayRollWrong : ChangeSpec := { name := "fnExactPayRoll", fn := fun _ => fun
  | [d1, d2] => { results := [.lit (.bool false)], args := [d1, d2] }
  | _ => none }
def FnExactPayRollWrongFalsely : Prop := fnExactPayRollRow.holds Try.pinned (OpenSpec.ofChange fnExactPayRollWrong)

/-- 'laws.FnExactCarefulWeavers': WHATEVER THE INPUT: true; the input reads as it did. -/
def fnExactCarefulWeaversSpec : ChangeSpec := { name := "fnExactCarefulWeavers", fn := fun _ => fun
  | [d] => { results := [.lit (.bool true)], args := [d] }
  | _ => none }
def fnExactCarefulWeaversRow : OpenClaim := { program := "ythaghophlfbobaa", sum := "804c5431183e9e7eff1f251205c9d831fbbb6d70d3ef841163092ec511b231bc", func := "loop.example/g01023/laws.FnExactCarefulWeavers", spec := "fnExactCarefulWeavers", unfollowed := true, recurses := true, apart := false }
def FnExactCarefulWeaversSaid : Prop := fnExactCarefulWeaversRow.holds Try.pinned (OpenSpec.ofChange fnExactCarefulWeaversSpec)

/-- ITS FALSE NEIGHBOUR: 'it returns false'. Refute it at one input. -/
def fnExactCarefulWeaversWrong : ChangeSpec := { name := "fnExactCarefulWeavers", fn := fun _ => fun
  | [d] => { results := [.lit (.bool false)], args := [d] }
  | _ => none }
def FnExactCarefulWeaversWrongFalsely : Prop := fnExactCarefulWeaversRow.holds Try.pinned (OpenSpec.ofChange fnExactCarefulWeaversWrong)

/-- 'laws.FnExactBestDayOf': WHATEVER THE INPUT: true; the input reads as it did. -/
def fnExactBestDayOfSpec : ChangeSpec := { name := "fnExactBestDayOf", fn := fun _ => fun
  | [d1, d2] => { results := [.lit (.bool true)], args := [d1, d2] }
  | _ => none }
def fnExactBestDayOfRow : OpenClaim := { program := "ythaghophlfbobaa", sum := "804c5431183e9e7eff1f251205c9d831fbbb6d70d3ef841163092ec511b231bc", func := "loop.example/g01023/laws.FnExactBestDayOf", spec := "fnExactBestDayOf", unfollowed := true, recurses := true, apart := false }
def FnExactBestDayOfSaid : Prop := fnExactBestDayOfRow.holds Try.pinned (OpenSpec.ofChange fnExactBestDayOfSpec)

/-- ITS FALSE NEIGHBOUR: 'it returns false'. Refute it at one input. -/
def fnExactBestDayOfWrong : ChangeSpec := { name := "fnExactBestDayOf", fn := fun _ => fun
  | [d1, d2] => { results := [.lit (.bool false)], args := [d1, d2] }
  | _ => none }
def FnExactBestDayOfWrongFalsely : Prop := fnExactBestDayOfRow.holds Try.pinned (OpenSpec.ofChange fnExactBestDayOfWrong)

/-- 'laws.FnExactKnotsForWage': WHATEVER THE INPUT: true; the input reads as it did. -/
def fnExactKnotsForWageSpec : ChangeSpec := { name := "fnExactKnotsForWage", fn := fun _ => fun
  | [d1, d2] => { results := [.lit (.bool true)], args := [d1, d2] }
  | _ => none }
def fnExactKnotsForWageRow : OpenClaim := { program := "ythaghophlfbobaa", sum := "804c5431183e9e7eff1f251205c9d831fbbb6d70d3ef841163092ec511b231bc", func := "loop.example/g01023/laws.FnExactKnotsForWage", spec := "fnExactKnotsForWage", unfollowed := true, recurses := true, apart := false }
def FnExactKnotsForWageSaid : Prop := fnExactKnotsForWageRow.holds Try.pinned (OpenSpec.ofChange fnExactKnotsForWageSpec)

/-- ITS FALSE NEIGHBOUR: 'it returns false'. Refute it at one input. -/
def fnExactKnotsForWageWrong : ChangeSpec := { name := "fnExactKnotsForWage", fn := fun _ => fun
  | [d1, d2] => { results := [.lit (.bool false)], args := [d1, d2] }
  | _ => none }
def FnExactKnotsForWageWrongFalsely : Prop := fnExactKnotsForWageRow.holds Try.pinned (OpenSpec.ofChange fnExactKnotsForWageWrong)

/-- 'laws.FnExactMissedBonus': WHATEVER THE INPUT: true; the input reads as it did. -/
def fnExactMissedBonusSpec : ChangeSpec := { name := "fnExactMissedBonus", fn := fun _ => fun
  | [d] => { results := [.lit (.bool true)], args := [d] }
  | _ => none }
def fnExactMissedBonusRow : OpenClaim := { program := "ythaghophlfbobaa", sum := "804c5431183e9e7eff1f251205c9d831fbbb6d70d3ef841163092ec511b231bc", func := "loop.example/g01023/laws.FnExactMissedBonus", spec := "fnExactMissedBonus", apart := false }
def FnExactMissedBonusSaid : Prop := fnExactMissedBonusRow.holds Try.pinned (OpenSpec.ofChange fnExactMissedBonusSpec)

/-- ITS FALSE NEIGHBOUR: 'it returns false'. Refute it at one input. -/
def fnExactMissedBonusWrong : ChangeSpec := { name := "fnExactMissedBonus", fn := fun _ => fun
  | [d] => { results := [.lit (.bool false)], args := [d] }
  | _ => none }
def FnExactMissedBonusWrongFalsely : Prop := fnExactMissedBonusRow.holds Try.pinned (OpenSpec.ofChange fnExactMissedBonusWrong)

/- THE SECOND FORM. 'bulk': how many values and letters a reading holds, each counted each time it is reached (what is shared counts as often as it is met; a slice's spare places count too). A statement '..UptoSaid' is the law's where the arguments, and the package variables that the reading takes, are together of bulk at most 1048576: NARROWER than '..Said'. Prove '..Said' where nothing that the law and all that it calls make is longer than what came in: it says more and counts as full. Else prove '..UptoSaid'. A law counts once. -/
mutual
def uptoBulk {H : Type} : DataW H → Nat
  | .lit (.string bytes) => bytes.length + 1
  | .lit _ => 1
  | .nil => 1
  | .ptr d => uptoBulk d + 1
  | .slice elems spare => uptoBulkAll elems + uptoBulkAll spare + 1
  | .agg parts => uptoBulkAll parts + 1
  | .iface _ d => uptoBulk d + 1
  | .map entries => uptoBulkEntries entries + 1
  | .held _ => 1
def uptoBulkAll {H : Type} : List (DataW H) → Nat
  | [] => 0
  | d :: r => uptoBulk d + uptoBulkAll r
def uptoBulkEntries {H : Type} : List (Lit × DataW H) → Nat
  | [] => 0
  | x :: r => uptoBulkEntry x + uptoBulkEntries r
def uptoBulkEntry {H : Type} : Lit × DataW H → Nat
  | (.string bytes, d) => bytes.length + uptoBulk d + 1
  | (_, d) => uptoBulk d + 1
 end
def uptoSmall : (H : Type) → List (DataW H) → Bool := fun _ ds => decide (uptoBulkAll ds ≤ 1048576)
def OpenSpec.upto (s : _root_.Go.ChangeSpec) : _root_.Go.OpenSpec := { _root_.Go.OpenSpec.ofChange s with cond := some uptoSmall }

/-- 'laws.FnExactIsWorkSheet', WHERE WHAT IT READS IS OF BULK AT MOST 1048576: true; the input reads as it did. -/
def fnExactIsWorkSheetUptoRow : OpenClaim := { program := "ythaghophlfbobaa", sum := "804c5431183e9e7eff1f251205c9d831fbbb6d70d3ef841163092ec511b231bc", func := "loop.example/g01023/laws.FnExactIsWorkSheet", spec := "fnExactIsWorkSheet", apart := false, narrowed := true }
def FnExactIsWorkSheetUptoSaid : Prop := fnExactIsWorkSheetUptoRow.holds Try.pinned (OpenSpec.upto fnExactIsWorkSheetSpec)

/-- 'laws.FnExactAreSheets', WHERE WHAT IT READS IS OF BULK AT MOST 1048576: true; the input reads as it did. -/
def fnExactAreSheetsUptoRow : OpenClaim := { program := "ythaghophlfbobaa", sum := "804c5431183e9e7eff1f251205c9d831fbbb6d70d3ef841163092ec511b231bc", func := "loop.example/g01023/laws.FnExactAreSheets", spec := "fnExactAreSheets", apart := false, narrowed := true }
def FnExactAreSheetsUptoSaid : Prop := fnExactAreSheetsUptoRow.holds Try.pinned (OpenSpec.upto fnExactAreSheetsSpec)

/-- 'laws.FnExactAreRates', WHERE WHAT IT READS IS OF BULK AT MOST 1048576: true; the input reads as it did. -/
def fnExactAreRatesUptoRow : OpenClaim := { program := "ythaghophlfbobaa", sum := "804c5431183e9e7eff1f251205c9d831fbbb6d70d3ef841163092ec511b231bc", func := "loop.example/g01023/laws.FnExactAreRates", spec := "fnExactAreRates", apart := false, narrowed := true }
def FnExactAreRatesUptoSaid : Prop := fnExactAreRatesUptoRow.holds Try.pinned (OpenSpec.upto fnExactAreRatesSpec)

/-- 'laws.FnExactWageOf', WHERE WHAT IT READS IS OF BULK AT MOST 1048576: true; the input reads as it did. -/
def fnExactWageOfUptoRow : OpenClaim := { program := "ythaghophlfbobaa", sum := "804c5431183e9e7eff1f251205c9d831fbbb6d70d3ef841163092ec511b231bc", func := "loop.example/g01023/laws.FnExactWageOf", spec := "fnExactWageOf", apart := false, narrowed := true }
def FnExactWageOfUptoSaid : Prop := fnExactWageOfUptoRow.holds Try.pinned (OpenSpec.upto fnExactWageOfSpec)

/-- 'laws.FnExactWagesBetween', WHERE WHAT IT READS IS OF BULK AT MOST 1048576: true; the input reads as it did. -/
def fnExactWagesBetweenUptoRow : OpenClaim := { program := "ythaghophlfbobaa", sum := "804c5431183e9e7eff1f251205c9d831fbbb6d70d3ef841163092ec511b231bc", func := "loop.example/g01023/laws.FnExactWagesBetween", spec := "fnExactWagesBetween", apart := false, narrowed := true }
def FnExactWagesBetweenUptoSaid : Prop := fnExactWagesBetweenUptoRow.holds Try.pinned (OpenSpec.upto fnExactWagesBetweenSpec)

/-- 'laws.FnExactPayRoll', WHERE WHAT IT READS IS OF BULK AT MOST 1048576: true; the input reads as it did. -/
def fnExactPayRollUptoRow : OpenClaim := { program := "ythaghophlfbobaa", sum := "804c5431183e9e7eff1f251205c9d831fbbb6d70d3ef841163092ec511b231bc", func := "loop.example/g01023/laws.FnExactPayRoll", spec := "fnExactPayRoll", recurses := true, apart := false, narrowed := true }
def FnExactPayRollUptoSaid : Prop := fnExactPayRollUptoRow.holds Try.pinned (OpenSpec.upto fnExactPayRollSpec)

/-- 'laws.FnExactCarefulWeavers', WHERE WHAT IT READS IS OF BULK AT MOST 1048576: true; the input reads as it did. -/
def fnExactCarefulWeaversUptoRow : OpenClaim := { program := "ythaghophlfbobaa", sum := "804c5431183e9e7eff1f251205c9d831fbbb6d70d3ef841163092ec511b231bc", func := "loop.example/g01023/laws.FnExactCarefulWeavers", spec := "fnExactCarefulWeavers", unfollowed := true, recurses := true, apart := false, narrowed := true }
def FnExactCarefulWeaversUptoSaid : Prop := fnExactCarefulWeaversUptoRow.holds Try.pinned (OpenSpec.upto fnExactCarefulWeaversSpec)

/-- 'laws.FnExactBestDayOf', WHERE WHAT IT READS IS OF BULK AT MOST 1048576: true; the input reads as it did. -/
def fnExactBestDayOfUptoRow : OpenClaim := { program := "ythaghophlfbobaa", sum := "804c5431183e9e7eff1f251205c9d831fbbb6d70d3ef841163092ec511b231bc", func := "loop.example/g01023/laws.FnExactBestDayOf", spec := "fnExactBestDayOf", unfollowed := true, recurses := true, apart := false, narrowed := true }
def FnExactBestDayOfUptoSaid : Prop := fnExactBestDayOfUptoRow.holds Try.pinned (OpenSpec.upto fnExactBestDayOfSpec)

/-- 'laws.FnExactKnotsForWage', WHERE WHAT IT READS IS OF BULK AT MOST 1048576: true; the input reads as it did. -/
def fnExactKnotsForWageUptoRow : OpenClaim := { program := "ythaghophlfbobaa", sum := "804c5431183e9e7eff1f251205c9d831fbbb6d70d3ef841163092ec511b231bc", func := "loop.example/g01023/laws.FnExactKnotsForWage", spec := "fnExactKnotsForWage", unfollowed := true, recurses := true, apart := false, narrowed := true }
def FnExactKnotsForWageUptoSaid : Prop := fnExactKnotsForWageUptoRow.holds Try.pinned (OpenSpec.upto fnExactKnotsForWageSpec)

/-- 'laws.FnExactMissedBonus', WHERE WHAT IT READS IS OF BULK AT MOST 1048576: true; the input reads as it did. -/
def fnExactMissedBonusUptoRow : OpenClaim := { program := "ythaghophlfbobaa", sum := "804c5431183e9e7eff1f251205c9d831fbbb6d70d3ef841163092ec511b231bc", func := "loop.example/g01023/laws.FnExactMissedBonus", spec := "fnExactMissedBonus", apart := false, narrowed := true }
def FnExactMissedBonusUptoSaid : Prop := fnExactMissedBonusUptoRow.holds Try.pinned (OpenSpec.upto fnExactMissedBonusSpec)

end Rows
end Go.Proofs.Ythaghophlfbobaa
