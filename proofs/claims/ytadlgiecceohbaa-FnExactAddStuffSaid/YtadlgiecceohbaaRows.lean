/-
  No cell of these rows narrows 'for every input' (looked for: loops, veiled, ifaces, maps, wideKeys, modest, calm, conditions, laid).
  DERIVED. THE GIVEN ROWS OF THIS SEAT. 8 by the template 'for every input the law returns true; each argument reads behind the call as it read before'; 0 by the template 'total and deterministic' (their statements: YtadlgiecceohbaaTotals.lean).
  GIVEN WITH THE SEED: the statements are not yours to turn. If you find one false, say at which input.
  Laid BY PROGRAM, IN A SANDBOX (cutbox-rows.mjs): the forced cells as the released guide's own fill.sh prints them over the translation 154ffcb0d523eadd… (all of the seat's roots in one cut). By AI agents, Wed Nov 11 2026. No macro, syntax, notation, axiom, sorry.
-/
import Derived.Test.YtadlgiecceohbaaChecked
import GoSem.Claim
import GoSem.ClaimJoined
import GoSem.ClaimMapViews
import Derived.JoinedTies
import Derived.KernelRfl
namespace Go.Proofs.Ytadlgiecceohbaa
/- THE CELL 'sum', in the pinned program and in every row, IS THE sha256 OF THE DUMP (.gsa) THAT YtadlgiecceohbaaProg.lean LOADS. Nothing in Lean hashes anything: it is a label: what it is worth is what the hold of that sum in a sandbox is worth. -/
noncomputable def Try.pinned : Pinned := { name := "ytadlgiecceohbaa", sum := "154ffcb0d523eadd42ab8535997944d87a4e4cab8620a7ff2b3580a94a660537", checked := Try.checked }
namespace Rows
def none {H : Type} : Left H := { results := [], args := [] }

/-- 'laws.FnExactIsRecipe': WHATEVER THE INPUT: true; the input reads as it did. -/
def fnExactIsRecipeSpec : ChangeSpec := { name := "fnExactIsRecipe", fn := fun _ => fun
  | [d] => { results := [.lit (.bool true)], args := [d] }
  | _ => none }
def fnExactIsRecipeRow : OpenClaim := { program := "ytadlgiecceohbaa", sum := "154ffcb0d523eadd42ab8535997944d87a4e4cab8620a7ff2b3580a94a660537", func := "loop.example/g01023/laws.FnExactIsRecipe", spec := "fnExactIsRecipe", apart := false }
def FnExactIsRecipeSaid : Prop := fnExactIsRecipeRow.holds Try.pinned (OpenSpec.ofChange fnExactIsRecipeSpec)

/-- ITS FALSE NEIGHBOUR: 'it returns false'. Refute it at one input. -/
def fnExactIsRecipeWrong : ChangeSpec := { name := "fnExactIsRecipe", fn := fun _ => fun
  | [d] => { results := [.lit (.bool false)], args := [d] }
  | _ => none }
def FnExactIsRecipeWrongFalsely : Prop := fnExactIsRecipeRow.holds Try.pinned (OpenSpec.ofChange fnExactIsRecipeWrong)

/-- 'laws.FnExactIsBath': WHATEVER THE INPUT: true; the input reads as it did. -/
def fnExactIsBathSpec : ChangeSpec := { name := "fnExactIsBath", fn := fun _ => fun
  | [d1, d2] => { results := [.lit (.bool true)], args := [d1, d2] }
  | _ => none }
def fnExactIsBathRow : OpenClaim := { program := "ytadlgiecceohbaa", sum := "154ffcb0d523eadd42ab8535997944d87a4e4cab8620a7ff2b3580a94a660537", func := "loop.example/g01023/laws.FnExactIsBath", spec := "fnExactIsBath", apart := false }
def FnExactIsBathSaid : Prop := fnExactIsBathRow.holds Try.pinned (OpenSpec.ofChange fnExactIsBathSpec)

/-- ITS FALSE NEIGHBOUR: 'it returns false'. Refute it at one input. -/
def fnExactIsBathWrong : ChangeSpec := { name := "fnExactIsBath", fn := fun _ => fun
  | [d1, d2] => { results := [.lit (.bool false)], args := [d1, d2] }
  | _ => none }
def FnExactIsBathWrongFalsely : Prop := fnExactIsBathRow.holds Try.pinned (OpenSpec.ofChange fnExactIsBathWrong)

/-- 'laws.FnExactNeedsFor': WHATEVER THE INPUT: true; the input reads as it did. -/
def fnExactNeedsForSpec : ChangeSpec := { name := "fnExactNeedsFor", fn := fun _ => fun
  | [d1, d2] => { results := [.lit (.bool true)], args := [d1, d2] }
  | _ => none }
def fnExactNeedsForRow : OpenClaim := { program := "ytadlgiecceohbaa", sum := "154ffcb0d523eadd42ab8535997944d87a4e4cab8620a7ff2b3580a94a660537", func := "loop.example/g01023/laws.FnExactNeedsFor", spec := "fnExactNeedsFor", apart := false }
def FnExactNeedsForSaid : Prop := fnExactNeedsForRow.holds Try.pinned (OpenSpec.ofChange fnExactNeedsForSpec)

/-- ITS FALSE NEIGHBOUR: 'it returns false'. Refute it at one input. -/
def fnExactNeedsForWrong : ChangeSpec := { name := "fnExactNeedsFor", fn := fun _ => fun
  | [d1, d2] => { results := [.lit (.bool false)], args := [d1, d2] }
  | _ => none }
def FnExactNeedsForWrongFalsely : Prop := fnExactNeedsForRow.holds Try.pinned (OpenSpec.ofChange fnExactNeedsForWrong)

/-- 'laws.FnExactIsReady': WHATEVER THE INPUT: true; the input reads as it did. -/
def fnExactIsReadySpec : ChangeSpec := { name := "fnExactIsReady", fn := fun _ => fun
  | [d1, d2] => { results := [.lit (.bool true)], args := [d1, d2] }
  | _ => none }
def fnExactIsReadyRow : OpenClaim := { program := "ytadlgiecceohbaa", sum := "154ffcb0d523eadd42ab8535997944d87a4e4cab8620a7ff2b3580a94a660537", func := "loop.example/g01023/laws.FnExactIsReady", spec := "fnExactIsReady", apart := false }
def FnExactIsReadySaid : Prop := fnExactIsReadyRow.holds Try.pinned (OpenSpec.ofChange fnExactIsReadySpec)

/-- ITS FALSE NEIGHBOUR: 'it returns false'. Refute it at one input. -/
def fnExactIsReadyWrong : ChangeSpec := { name := "fnExactIsReady", fn := fun _ => fun
  | [d1, d2] => { results := [.lit (.bool false)], args := [d1, d2] }
  | _ => none }
def FnExactIsReadyWrongFalsely : Prop := fnExactIsReadyRow.holds Try.pinned (OpenSpec.ofChange fnExactIsReadyWrong)

/-- 'laws.FnExactMostYarn': WHATEVER THE INPUT: true; the input reads as it did. -/
def fnExactMostYarnSpec : ChangeSpec := { name := "fnExactMostYarn", fn := fun _ => fun
  | [d1, d2] => { results := [.lit (.bool true)], args := [d1, d2] }
  | _ => none }
def fnExactMostYarnRow : OpenClaim := { program := "ytadlgiecceohbaa", sum := "154ffcb0d523eadd42ab8535997944d87a4e4cab8620a7ff2b3580a94a660537", func := "loop.example/g01023/laws.FnExactMostYarn", spec := "fnExactMostYarn", apart := false }
def FnExactMostYarnSaid : Prop := fnExactMostYarnRow.holds Try.pinned (OpenSpec.ofChange fnExactMostYarnSpec)

/-- ITS FALSE NEIGHBOUR: 'it returns false'. Refute it at one input. -/
def fnExactMostYarnWrong : ChangeSpec := { name := "fnExactMostYarn", fn := fun _ => fun
  | [d1, d2] => { results := [.lit (.bool false)], args := [d1, d2] }
  | _ => none }
def FnExactMostYarnWrongFalsely : Prop := fnExactMostYarnRow.holds Try.pinned (OpenSpec.ofChange fnExactMostYarnWrong)

/-- 'laws.FnExactDyeYarn': WHATEVER THE INPUT: true; the input reads as it did. -/
def fnExactDyeYarnSpec : ChangeSpec := { name := "fnExactDyeYarn", fn := fun _ => fun
  | [d1, d2] => { results := [.lit (.bool true)], args := [d1, d2] }
  | _ => none }
def fnExactDyeYarnRow : OpenClaim := { program := "ytadlgiecceohbaa", sum := "154ffcb0d523eadd42ab8535997944d87a4e4cab8620a7ff2b3580a94a660537", func := "loop.example/g01023/laws.FnExactDyeYarn", spec := "fnExactDyeYarn", apart := false }
def FnExactDyeYarnSaid : Prop := fnExactDyeYarnRow.holds Try.pinned (OpenSpec.ofChange fnExactDyeYarnSpec)

/-- ITS FALSE NEIGHBOUR: 'it returns false'. Refute it at one input. -/
def fnExactDyeYarnWrong : ChangeSpec := { name := "fnExactDyeYarn", fn := fun _ => fun
  | [d1, d2] => { results := [.lit (.bool false)], args := [d1, d2] }
  | _ => none }
def FnExactDyeYarnWrongFalsely : Prop := fnExactDyeYarnRow.holds Try.pinned (OpenSpec.ofChange fnExactDyeYarnWrong)

/-- 'laws.FnExactAddStuff': WHATEVER THE INPUT: true; the input reads as it did. -/
def fnExactAddStuffSpec : ChangeSpec := { name := "fnExactAddStuff", fn := fun _ => fun
  | [d1, d2, d3, d4] => { results := [.lit (.bool true)], args := [d1, d2, d3, d4] }
  | _ => none }
def fnExactAddStuffRow : OpenClaim := { program := "ytadlgiecceohbaa", sum := "154ffcb0d523eadd42ab8535997944d87a4e4cab8620a7ff2b3580a94a660537", func := "loop.example/g01023/laws.FnExactAddStuff", spec := "fnExactAddStuff", unfollowed := true, recurses := true, apart := false }
def FnExactAddStuffSaid : Prop := fnExactAddStuffRow.holds Try.pinned (OpenSpec.ofChange fnExactAddStuffSpec)

/-- ITS FALSE NEIGHBOUR: 'it returns false'. Refute it at one input. -/
def fnExactAddStuffWrong : ChangeSpec := { name := "fnExactAddStuff", fn := fun _ => fun
  | [d1, d2, d3, d4] => { results := [.lit (.bool false)], args := [d1, d2, d3, d4] }
  | _ => none }
def FnExactAddStuffWrongFalsely : Prop := fnExactAddStuffRow.holds Try.pinned (OpenSpec.ofChange fnExactAddStuffWrong)

/-- 'laws.FnExactDepthLeft': WHATEVER THE INPUT: true; the input reads as it did. -/
def fnExactDepthLeftSpec : ChangeSpec := { name := "fnExactDepthLeft", fn := fun _ => fun
  | [d1, d2, d3] => { results := [.lit (.bool true)], args := [d1, d2, d3] }
  | _ => none }
def fnExactDepthLeftRow : OpenClaim := { program := "ytadlgiecceohbaa", sum := "154ffcb0d523eadd42ab8535997944d87a4e4cab8620a7ff2b3580a94a660537", func := "loop.example/g01023/laws.FnExactDepthLeft", spec := "fnExactDepthLeft", apart := false }
def FnExactDepthLeftSaid : Prop := fnExactDepthLeftRow.holds Try.pinned (OpenSpec.ofChange fnExactDepthLeftSpec)

/-- ITS FALSE NEIGHBOUR: 'it returns false'. Refute it at one input. -/
def fnExactDepthLeftWrong : ChangeSpec := { name := "fnExactDepthLeft", fn := fun _ => fun
  | [d1, d2, d3] => { results := [.lit (.bool false)], args := [d1, d2, d3] }
  | _ => none }
def FnExactDepthLeftWrongFalsely : Prop := fnExactDepthLeftRow.holds Try.pinned (OpenSpec.ofChange fnExactDepthLeftWrong)

/- THE SECOND FORM. 'bulk': how many values and letters a reading holds, each counted each time it is reached (what is shared counts as often as it is met; a slice's spare places count too). A statement '..UptoSaid' is the law's where the arguments, and the package variables that the reading takes, are together of bulk at most 1048576: NARROWER than '..Said'. Prove '..Said' where nothing that the law and all that it calls make is longer than what came in: it says more and counts as full. Else prove '..UptoSaid'. A law counts once. -/
mutual
def uptoBulk {H : Type} : DataW H → Nat
  | .lit (.string bytes) => bytes.length + 1
  | .lit _ => 1
  | .nil => 1
  | .ptr d => uptoBulk d + 1
  | .slice elems spare => uptoBulkAll elems + uptoBulkAll spare + 1
  | .agg parts => uptoBulkAll parts + 1
  | .iface _ d => uptoBulk d + 1
  | .map entries => uptoBulkEntries entries + 1
  | .held _ => 1
def uptoBulkAll {H : Type} : List (DataW H) → Nat
  | [] => 0
  | d :: r => uptoBulk d + uptoBulkAll r
def uptoBulkEntries {H : Type} : List (Lit × DataW H) → Nat
  | [] => 0
  | x :: r => uptoBulkEntry x + uptoBulkEntries r
def uptoBulkEntry {H : Type} : Lit × DataW H → Nat
  | (.string bytes, d) => bytes.length + uptoBulk d + 1
  | (_, d) => uptoBulk d + 1
 end
def uptoSmall : (H : Type) → List (DataW H) → Bool := fun _ ds => decide (uptoBulkAll ds ≤ 1048576)
def OpenSpec.upto (s : _root_.Go.ChangeSpec) : _root_.Go.OpenSpec := { _root_.Go.OpenSpec.ofChange s with cond := some uptoSmall }

/-- 'laws.FnExactIsRecipe', WHERE WHAT IT READS IS OF BULK AT MOST 1048576: true; the input reads as it did. -/
def fnExactIsRecipeUptoRow : OpenClaim := { program := "ytadlgiecceohbaa", sum := "154ffcb0d523eadd42ab8535997944d87a4e4cab8620a7ff2b3580a94a660537", func := "loop.example/g01023/laws.FnExactIsRecipe", spec := "fnExactIsRecipe", apart := false, narrowed := true }
def FnExactIsRecipeUptoSaid : Prop := fnExactIsRecipeUptoRow.holds Try.pinned (OpenSpec.upto fnExactIsRecipeSpec)

/-- 'laws.FnExactIsBath', WHERE WHAT IT READS IS OF BULK AT MOST 1048576: true; the input reads as it did. -/
def fnExactIsBathUptoRow : OpenClaim := { program := "ytadlgiecceohbaa", sum := "154ffcb0d523eadd42ab8535997944d87a4e4cab8620a7ff2b3580a94a660537", func := "loop.example/g01023/laws.FnExactIsBath", spec := "fnExactIsBath", apart := false, narrowed := true }
def FnExactIsBathUptoSaid : Prop := fnExactIsBathUptoRow.holds Try.pinned (OpenSpec.upto fnExactIsBathSpec)

/-- 'laws.FnExactNeedsFor', WHERE WHAT IT READS IS OF BULK AT MOST 1048576: true; the input reads as it did. -/
def fnExactNeedsForUptoRow : OpenClaim := { program := "ytadlgiecceohbaa", sum := "154ffcb0d523eadd42ab8535997944d87a4e4cab8620a7ff2b3580a94a660537", func := "loop.example/g01023/laws.FnExactNeedsFor", spec := "fnExactNeedsFor", apart := false, narrowed := true }
def FnExactNeedsForUptoSaid : Prop := fnExactNeedsForUptoRow.holds Try.pinned (OpenSpec.upto fnExactNeedsForSpec)

/-- 'laws.FnExactIsReady', WHERE WHAT IT READS IS OF BULK AT MOST 1048576: true; the input reads as it did. -/
def fnExactIsReadyUptoRow : OpenClaim := { program := "ytadlgiecceohbaa", sum := "154ffcb0d523eadd42ab8535997944d87a4e4cab8620a7ff2b3580a94a660537", func := "loop.example/g01023/laws.FnExactIsReady", spec := "fnExactIsReady", apart := false, narrowed := true }
def FnExactIsReadyUptoSaid : Prop := fnExactIsReadyUptoRow.holds Try.pinned (OpenSpec.upto fnExactIsReadySpec)

/-- 'laws.FnExactMostYarn', WHERE WHAT IT READS IS OF BULK AT MOST 1048576: true; the input reads as it did. -/
def fnExactMostYarnUptoRow : OpenClaim := { program := "ytadlgiecceohbaa", sum := "154ffcb0d523eadd42ab8535997944d87a4e4cab8620a7ff2b3580a94a660537", func := "loop.example/g01023/laws.FnExactMostYarn", spec := "fnExactMostYarn", apart := false, narrowed := true }
def FnExactMostYarnUptoSaid : Prop := fnExactMostYarnUptoRow.holds Try.pinned (OpenSpec.upto fnExactMostYarnSpec)

/-- 'laws.FnExactDyeYarn', WHERE WHAT IT READS IS OF BULK AT MOST 1048576: true; the input reads as it did. -/
def fnExactDyeYarnUptoRow : OpenClaim := { program := "ytadlgiecceohbaa", sum := "154ffcb0d523eadd42ab8535997944d87a4e4cab8620a7ff2b3580a94a660537", func := "loop.example/g01023/laws.FnExactDyeYarn", spec := "fnExactDyeYarn", apart := false, narrowed := true }
def FnExactDyeYarnUptoSaid : Prop := fnExactDyeYarnUptoRow.holds Try.pinned (OpenSpec.upto fnExactDyeYarnSpec)

/-- 'laws.FnExactAddStuff', WHERE WHAT IT READS IS OF BULK AT MOST 1048576: true; the input reads as it did. -/
def fnExactAddStuffUptoRow : OpenClaim := { program := "ytadlgiecceohbaa", sum := "154ffcb0d523eadd42ab8535997944d87a4e4cab8620a7ff2b3580a94a660537", func := "loop.example/g01023/laws.FnExactAddStuff", spec := "fnExactAddStuff", unfollowed := true, recurses := true, apart := false, narrowed := true }
def FnExactAddStuffUptoSaid : Prop := fnExactAddStuffUptoRow.holds Try.pinned (OpenSpec.upto fnExactAddStuffSpec)

/-- 'laws.FnExactDepthLeft', WHERE WHAT IT READS IS OF BULK AT MOST 1048576: true; the input reads as it did. -/
def fnExactDepthLeftUptoRow : OpenClaim := { program := "ytadlgiecceohbaa", sum := "154ffcb0d523eadd42ab8535997944d87a4e4cab8620a7ff2b3580a94a660537", func := "loop.example/g01023/laws.FnExactDepthLeft", spec := "fnExactDepthLeft", apart := false, narrowed := true }
def FnExactDepthLeftUptoSaid : Prop := fnExactDepthLeftUptoRow.holds Try.pinned (OpenSpec.upto fnExactDepthLeftSpec)

end Rows
end Go.Proofs.Ytadlgiecceohbaa
