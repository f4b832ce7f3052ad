/-
  No cell of these rows narrows 'for every input' (looked for: loops, veiled, ifaces, maps, wideKeys, modest, calm, conditions, laid).
  DERIVED. THE GIVEN ROWS OF THIS SEAT. 10 by the template 'for every input the law returns true; each argument reads behind the call as it read before'; 0 by the template 'total and deterministic' (their statements: YteghebjnaggmoaaTotals.lean).
  GIVEN WITH THE SEED: the statements are not yours to turn. If you find one false, say at which input.
  Laid BY PROGRAM, IN A SANDBOX (cutbox-rows.mjs): the forced cells as the released guide's own fill.sh prints them over the translation 56ace0487e00d860… (all of the seat's roots in one cut). By AI agents, Wed Nov 11 2026. No macro, syntax, notation, axiom, sorry.
-/
import Derived.Test.YteghebjnaggmoaaChecked
import GoSem.Claim
import GoSem.ClaimJoined
import GoSem.ClaimMapViews
import Derived.JoinedTies
import Derived.KernelRfl
namespace Go.Proofs.Yteghebjnaggmoaa
/- THE CELL 'sum', in the pinned program and in every row, IS THE sha256 OF THE DUMP (.gsa) THAT YteghebjnaggmoaaProg.lean LOADS. Nothing in Lean hashes anything: it is a label: what it is worth is what the hold of that sum in a sandbox is worth. -/
noncomputable def Try.pinned : Pinned := { name := "yteghebjnaggmoaa", sum := "56ace0487e00d860c4cd9914d91e59b9256bc487057e4b870748c3663e601a20", checked := Try.checked }
namespace Rows
def none {H : Type} : Left H := { results := [], args := [] }

/-- 'laws.FnExactIsWeaver': WHATEVER THE INPUT: true; the input reads as it did. -/
def fnExactIsWeaverSpec : ChangeSpec := { name := "fnExactIsWeaver", fn := fun _ => fun
  | [d] => { results := [.lit (.bool true)], args := [d] }
  | _ => none }
def fnExactIsWeaverRow : OpenClaim := { program := "yteghebjnaggmoaa", sum := "56ace0487e00d860c4cd9914d91e59b9256bc487057e4b870748c3663e601a20", func := "loop.example/g01023/laws.FnExactIsWeaver", spec := "fnExactIsWeaver", apart := false }
def FnExactIsWeaverSaid : Prop := fnExactIsWeaverRow.holds Try.pinned (OpenSpec.ofChange fnExactIsWeaverSpec)

/-- ITS FALSE NEIGHBOUR: 'it returns false'. Refute it at one input. -/
def fnExactIsWeaverWrong : ChangeSpec := { name := "fnExactIsWeaver", fn := fun _ => fun
  | [d] => { results := [.lit (.bool false)], args := [d] }
  | _ => none }
def FnExactIsWeaverWrongFalsely : Prop := fnExactIsWeaverRow.holds Try.pinned (OpenSpec.ofChange fnExactIsWeaverWrong)

/-- 'laws.FnExactAreWeavers': WHATEVER THE INPUT: true; the input reads as it did. -/
def fnExactAreWeaversSpec : ChangeSpec := { name := "fnExactAreWeavers", fn := fun _ => fun
  | [d] => { results := [.lit (.bool true)], args := [d] }
  | _ => none }
def fnExactAreWeaversRow : OpenClaim := { program := "yteghebjnaggmoaa", sum := "56ace0487e00d860c4cd9914d91e59b9256bc487057e4b870748c3663e601a20", func := "loop.example/g01023/laws.FnExactAreWeavers", spec := "fnExactAreWeavers", apart := false }
def FnExactAreWeaversSaid : Prop := fnExactAreWeaversRow.holds Try.pinned (OpenSpec.ofChange fnExactAreWeaversSpec)

/-- ITS FALSE NEIGHBOUR: 'it returns false'. Refute it at one input. -/
def fnExactAreWeaversWrong : ChangeSpec := { name := "fnExactAreWeavers", fn := fun _ => fun
  | [d] => { results := [.lit (.bool false)], args := [d] }
  | _ => none }
def FnExactAreWeaversWrongFalsely : Prop := fnExactAreWeaversRow.holds Try.pinned (OpenSpec.ofChange fnExactAreWeaversWrong)

/-- 'laws.FnExactSeatWeaver': WHATEVER THE INPUT: true; the input reads as it did. -/
def fnExactSeatWeaverSpec : ChangeSpec := { name := "fnExactSeatWeaver", fn := fun _ => fun
  | [d1, d2, d3] => { results := [.lit (.bool true)], args := [d1, d2, d3] }
  | _ => none }
def fnExactSeatWeaverRow : OpenClaim := { program := "yteghebjnaggmoaa", sum := "56ace0487e00d860c4cd9914d91e59b9256bc487057e4b870748c3663e601a20", func := "loop.example/g01023/laws.FnExactSeatWeaver", spec := "fnExactSeatWeaver", unfollowed := true, recurses := true, apart := false }
def FnExactSeatWeaverSaid : Prop := fnExactSeatWeaverRow.holds Try.pinned (OpenSpec.ofChange fnExactSeatWeaverSpec)

/-- ITS FALSE NEIGHBOUR: 'it returns false'. Refute it at one input. -/
def fnExactSeatWeaverWrong : ChangeSpec := { name := "fnExactSeatWeaver", fn := fun _ => fun
  | [d1, d2, d3] => { results := [.lit (.bool false)], args := [d1, d2, d3] }
  | _ => none }
def FnExactSeatWeaverWrongFalsely : Prop := fnExactSeatWeaverRow.holds Try.pinned (OpenSpec.ofChange fnExactSeatWeaverWrong)

/-- 'laws.FnExactKnotsADay': WHATEVER THE INPUT: true; the input reads as it did. -/
def fnExactKnotsADaySpec : ChangeSpec := { name := "fnExactKnotsADay", fn := fun _ => fun
  | [d1, d2] => { results := [.lit (.bool true)], args := [d1, d2] }
  | _ => none }
def fnExactKnotsADayRow : OpenClaim := { program := "yteghebjnaggmoaa", sum := "56ace0487e00d860c4cd9914d91e59b9256bc487057e4b870748c3663e601a20", func := "loop.example/g01023/laws.FnExactKnotsADay", spec := "fnExactKnotsADay", apart := false }
def FnExactKnotsADaySaid : Prop := fnExactKnotsADayRow.holds Try.pinned (OpenSpec.ofChange fnExactKnotsADaySpec)

/-- ITS FALSE NEIGHBOUR: 'it returns false'. Refute it at one input. -/
def fnExactKnotsADayWrong : ChangeSpec := { name := "fnExactKnotsADay", fn := fun _ => fun
  | [d1, d2] => { results := [.lit (.bool false)], args := [d1, d2] }
  | _ => none }
def FnExactKnotsADayWrongFalsely : Prop := fnExactKnotsADayRow.holds Try.pinned (OpenSpec.ofChange fnExactKnotsADayWrong)

/-- 'laws.FnExactDaysForKnots': WHATEVER THE INPUT: true; the input reads as it did. -/
def fnExactDaysForKnotsSpec : ChangeSpec := { name := "fnExactDaysForKnots", fn := fun _ => fun
  | [d1, d2, d3] => { results := [.lit (.bool true)], args := [d1, d2, d3] }
  | _ => none }
def fnExactDaysForKnotsRow : OpenClaim := { program := "yteghebjnaggmoaa", sum := "56ace0487e00d860c4cd9914d91e59b9256bc487057e4b870748c3663e601a20", func := "loop.example/g01023/laws.FnExactDaysForKnots", spec := "fnExactDaysForKnots", apart := false }
def FnExactDaysForKnotsSaid : Prop := fnExactDaysForKnotsRow.holds Try.pinned (OpenSpec.ofChange fnExactDaysForKnotsSpec)

/-- ITS FALSE NEIGHBOUR: 'it returns false'. Refute it at one input. -/
def fnExactDaysForKnotsWrong : ChangeSpec := { name := "fnExactDaysForKnots", fn := fun _ => fun
  | [d1, d2, d3] => { results := [.lit (.bool false)], args := [d1, d2, d3] }
  | _ => none }
def FnExactDaysForKnotsWrongFalsely : Prop := fnExactDaysForKnotsRow.holds Try.pinned (OpenSpec.ofChange fnExactDaysForKnotsWrong)

/-- 'laws.FnExactWithSkills': WHATEVER THE INPUT: true; the input reads as it did. -/
def fnExactWithSkillsSpec : ChangeSpec := { name := "fnExactWithSkills", fn := fun _ => fun
  | [d1, d2] => { results := [.lit (.bool true)], args := [d1, d2] }
  | _ => none }
def fnExactWithSkillsRow : OpenClaim := { program := "yteghebjnaggmoaa", sum := "56ace0487e00d860c4cd9914d91e59b9256bc487057e4b870748c3663e601a20", func := "loop.example/g01023/laws.FnExactWithSkills", spec := "fnExactWithSkills", apart := false }
def FnExactWithSkillsSaid : Prop := fnExactWithSkillsRow.holds Try.pinned (OpenSpec.ofChange fnExactWithSkillsSpec)

/-- ITS FALSE NEIGHBOUR: 'it returns false'. Refute it at one input. -/
def fnExactWithSkillsWrong : ChangeSpec := { name := "fnExactWithSkills", fn := fun _ => fun
  | [d1, d2] => { results := [.lit (.bool false)], args := [d1, d2] }
  | _ => none }
def FnExactWithSkillsWrongFalsely : Prop := fnExactWithSkillsRow.holds Try.pinned (OpenSpec.ofChange fnExactWithSkillsWrong)

/-- 'laws.FnExactFewestFor': WHATEVER THE INPUT: true; the input reads as it did. -/
def fnExactFewestForSpec : ChangeSpec := { name := "fnExactFewestFor", fn := fun _ => fun
  | [d1, d2] => { results := [.lit (.bool true)], args := [d1, d2] }
  | _ => none }
def fnExactFewestForRow : OpenClaim := { program := "yteghebjnaggmoaa", sum := "56ace0487e00d860c4cd9914d91e59b9256bc487057e4b870748c3663e601a20", func := "loop.example/g01023/laws.FnExactFewestFor", spec := "fnExactFewestFor", recurses := true, apart := false }
def FnExactFewestForSaid : Prop := fnExactFewestForRow.holds Try.pinned (OpenSpec.ofChange fnExactFewestForSpec)

/-- ITS FALSE NEIGHBOUR: 'it returns false'. Refute it at one input. -/
def fnExactFewestForWrong : ChangeSpec := { name := "fnExactFewestFor", fn := fun _ => fun
  | [d1, d2] => { results := [.lit (.bool false)], args := [d1, d2] }
  | _ => none }
def FnExactFewestForWrongFalsely : Prop := fnExactFewestForRow.holds Try.pinned (OpenSpec.ofChange fnExactFewestForWrong)

/-- 'laws.FnExactFastestFree': WHATEVER THE INPUT: true; the input reads as it did. -/
def fnExactFastestFreeSpec : ChangeSpec := { name := "fnExactFastestFree", fn := fun _ => fun
  | [d] => { results := [.lit (.bool true)], args := [d] }
  | _ => none }
def fnExactFastestFreeRow : OpenClaim := { program := "yteghebjnaggmoaa", sum := "56ace0487e00d860c4cd9914d91e59b9256bc487057e4b870748c3663e601a20", func := "loop.example/g01023/laws.FnExactFastestFree", spec := "fnExactFastestFree", apart := false }
def FnExactFastestFreeSaid : Prop := fnExactFastestFreeRow.holds Try.pinned (OpenSpec.ofChange fnExactFastestFreeSpec)

/-- ITS FALSE NEIGHBOUR: 'it returns false'. Refute it at one input. -/
def fnExactFastestFreeWrong : ChangeSpec := { name := "fnExactFastestFree", fn := fun _ => fun
  | [d] => { results := [.lit (.bool false)], args := [d] }
  | _ => none }
def FnExactFastestFreeWrongFalsely : Prop := fnExactFastestFreeRow.holds Try.pinned (OpenSpec.ofChange fnExactFastestFreeWrong)

/-- 'laws.FnExactTeachSkill': WHATEVER THE INPUT: true; the input reads as it did. -/
def fnExactTeachSkillSpec : ChangeSpec := { name := "fnExactTeachSkill", fn := fun _ => fun
  | [d1, d2, d3, d4] => { results := [.lit (.bool true)], args := [d1, d2, d3, d4] }
  | _ => none }
def fnExactTeachSkillRow : OpenClaim := { program := "yteghebjnaggmoaa", sum := "56ace0487e00d860c4cd9914d91e59b9256bc487057e4b870748c3663e601a20", func := "loop.example/g01023/laws.FnExactTeachSkill", spec := "fnExactTeachSkill", unfollowed := true, recurses := true, apart := false }
def FnExactTeachSkillSaid : Prop := fnExactTeachSkillRow.holds Try.pinned (OpenSpec.ofChange fnExactTeachSkillSpec)

/-- ITS FALSE NEIGHBOUR: 'it returns false'. Refute it at one input. -/
def fnExactTeachSkillWrong : ChangeSpec := { name := "fnExactTeachSkill", fn := fun _ => fun
  | [d1, d2, d3, d4] => { results := [.lit (.bool false)], args := [d1, d2, d3, d4] }
  | _ => none }
def FnExactTeachSkillWrongFalsely : Prop := fnExactTeachSkillRow.holds Try.pinned (OpenSpec.ofChange fnExactTeachSkillWrong)

/-- 'laws.FnExactLoomsUsed': WHATEVER THE INPUT: true; the input reads as it did. -/
def fnExactLoomsUsedSpec : ChangeSpec := { name := "fnExactLoomsUsed", fn := fun _ => fun
  | [d] => { results := [.lit (.bool true)], args := [d] }
  | _ => none }
def fnExactLoomsUsedRow : OpenClaim := { program := "yteghebjnaggmoaa", sum := "56ace0487e00d860c4cd9914d91e59b9256bc487057e4b870748c3663e601a20", func := "loop.example/g01023/laws.FnExactLoomsUsed", spec := "fnExactLoomsUsed", recurses := true, apart := false }
def FnExactLoomsUsedSaid : Prop := fnExactLoomsUsedRow.holds Try.pinned (OpenSpec.ofChange fnExactLoomsUsedSpec)

/-- ITS FALSE NEIGHBOUR: 'it returns false'. Refute it at one input. -/
def fnExactLoomsUsedWrong : ChangeSpec := { name := "fnExactLoomsUsed", fn := fun _ => fun
  | [d] => { results := [.lit (.bool false)], args := [d] }
  | _ => none }
def FnExactLoomsUsedWrongFalsely : Prop := fnExactLoomsUsedRow.holds Try.pinned (OpenSpec.ofChange fnExactLoomsUsedWrong)

/- THE SECOND FORM. 'bulk': how many values and letters a reading holds, each counted each time it is reached (what is shared counts as often as it is met; a slice's spare places count too). A statement '..UptoSaid' is the law's where the arguments, and the package variables that the reading takes, are together of bulk at most 1048576: NARROWER than '..Said'. Prove '..Said' where nothing that the law and all that it calls make is longer than what came in: it says more and counts as full. Else prove '..UptoSaid'. A law counts once. -/
mutual
def uptoBulk {H : Type} : DataW H → Nat
  | .lit (.string bytes) => bytes.length + 1
  | .lit _ => 1
  | .nil => 1
  | .ptr d => uptoBulk d + 1
  | .slice elems spare => uptoBulkAll elems + uptoBulkAll spare + 1
  | .agg parts => uptoBulkAll parts + 1
  | .iface _ d => uptoBulk d + 1
  | .map entries => uptoBulkEntries entries + 1
  | .held _ => 1
def uptoBulkAll {H : Type} : List (DataW H) → Nat
  | [] => 0
  | d :: r => uptoBulk d + uptoBulkAll r
def uptoBulkEntries {H : Type} : List (Lit × DataW H) → Nat
  | [] => 0
  | x :: r => uptoBulkEntry x + uptoBulkEntries r
def uptoBulkEntry {H : Type} : Lit × DataW H → Nat
  | (.string bytes, d) => bytes.length + uptoBulk d + 1
  | (_, d) => uptoBulk d + 1
 end
def uptoSmall : (H : Type) → List (DataW H) → Bool := fun _ ds => decide (uptoBulkAll ds ≤ 1048576)
def OpenSpec.upto (s : _root_.Go.ChangeSpec) : _root_.Go.OpenSpec := { _root_.Go.OpenSpec.ofChange s with cond := some uptoSmall }

/-- 'laws.FnExactIsWeaver', WHERE WHAT IT READS IS OF BULK AT MOST 1048576: true; the input reads as it did. -/
def fnExactIsWeaverUptoRow : OpenClaim := { program := "yteghebjnaggmoaa", sum := "56ace0487e00d860c4cd9914d91e59b9256bc487057e4b870748c3663e601a20", func := "loop.example/g01023/laws.FnExactIsWeaver", spec := "fnExactIsWeaver", apart := false, narrowed := true }
def FnExactIsWeaverUptoSaid : Prop := fnExactIsWeaverUptoRow.holds Try.pinned (OpenSpec.upto fnExactIsWeaverSpec)

/-- 'laws.FnExactAreWeavers', WHERE WHAT IT READS IS OF BULK AT MOST 1048576: true; the input reads as it did. -/
def fnExactAreWeaversUptoRow : OpenClaim := { program := "yteghebjnaggmoaa", sum := "56ace0487e00d860c4cd9914d91e59b9256bc487057e4b870748c3663e601a20", func := "loop.example/g01023/laws.FnExactAreWeavers", spec := "fnExactAreWeavers", apart := false, narrowed := true }
def FnExactAreWeaversUptoSaid : Prop := fnExactAreWeaversUptoRow.holds Try.pinned (OpenSpec.upto fnExactAreWeaversSpec)

/-- 'laws.FnExactSeatWeaver', WHERE WHAT IT READS IS OF BULK AT MOST 1048576: true; the input reads as it did. -/
def fnExactSeatWeaverUptoRow : OpenClaim := { program := "yteghebjnaggmoaa", sum := "56ace0487e00d860c4cd9914d91e59b9256bc487057e4b870748c3663e601a20", func := "loop.example/g01023/laws.FnExactSeatWeaver", spec := "fnExactSeatWeaver", unfollowed := true, recurses := true, apart := false, narrowed := true }
def FnExactSeatWeaverUptoSaid : Prop := fnExactSeatWeaverUptoRow.holds Try.pinned (OpenSpec.upto fnExactSeatWeaverSpec)

/-- 'laws.FnExactKnotsADay', WHERE WHAT IT READS IS OF BULK AT MOST 1048576: true; the input reads as it did. -/
def fnExactKnotsADayUptoRow : OpenClaim := { program := "yteghebjnaggmoaa", sum := "56ace0487e00d860c4cd9914d91e59b9256bc487057e4b870748c3663e601a20", func := "loop.example/g01023/laws.FnExactKnotsADay", spec := "fnExactKnotsADay", apart := false, narrowed := true }
def FnExactKnotsADayUptoSaid : Prop := fnExactKnotsADayUptoRow.holds Try.pinned (OpenSpec.upto fnExactKnotsADaySpec)

/-- 'laws.FnExactDaysForKnots', WHERE WHAT IT READS IS OF BULK AT MOST 1048576: true; the input reads as it did. -/
def fnExactDaysForKnotsUptoRow : OpenClaim := { program := "yteghebjnaggmoaa", sum := "56ace0487e00d860c4cd9914d91e59b9256bc487057e4b870748c3663e601a20", func := "loop.example/g01023/laws.FnExactDaysForKnots", spec := "fnExactDaysForKnots", apart := false, narrowed := true }
def FnExactDaysForKnotsUptoSaid : Prop := fnExactDaysForKnotsUptoRow.holds Try.pinned (OpenSpec.upto fnExactDaysForKnotsSpec)

/-- 'laws.FnExactWithSkills', WHERE WHAT IT READS IS OF BULK AT MOST 1048576: true; the input reads as it did. -/
def fnExactWithSkillsUptoRow : OpenClaim := { program := "yteghebjnaggmoaa", sum := "56ace0487e00d860c4cd9914d91e59b9256bc487057e4b870748c3663e601a20", func := "loop.example/g01023/laws.FnExactWithSkills", spec := "fnExactWithSkills", apart := false, narrowed := true }
def FnExactWithSkillsUptoSaid : Prop := fnExactWithSkillsUptoRow.holds Try.pinned (OpenSpec.upto fnExactWithSkillsSpec)

/-- 'laws.FnExactFewestFor', WHERE WHAT IT READS IS OF BULK AT MOST 1048576: true; the input reads as it did. -/
def fnExactFewestForUptoRow : OpenClaim := { program := "yteghebjnaggmoaa", sum := "56ace0487e00d860c4cd9914d91e59b9256bc487057e4b870748c3663e601a20", func := "loop.example/g01023/laws.FnExactFewestFor", spec := "fnExactFewestFor", recurses := true, apart := false, narrowed := true }
def FnExactFewestForUptoSaid : Prop := fnExactFewestForUptoRow.holds Try.pinned (OpenSpec.upto fnExactFewestForSpec)

/-- 'laws.FnExactFastestFree', WHERE WHAT IT READS IS OF BULK AT MOST 1048576: true; the input reads as it did. -/
def fnExactFastestFreeUptoRow : OpenClaim := { program := "yteghebjnaggmoaa", sum := "56ace0487e00d860c4cd9914d91e59b9256bc487057e4b870748c3663e601a20", func := "loop.example/g01023/laws.FnExactFastestFree", spec := "fnExactFastestFree", apart := false, narrowed := true }
def FnExactFastestFreeUptoSaid : Prop := fnExactFastestFreeUptoRow.holds Try.pinned (OpenSpec.upto fnExactFastestFreeSpec)

/-- 'laws.FnExactTeachSkill', WHERE WHAT IT READS IS OF BULK AT MOST 1048576: true; the input reads as it did. -/
def fnExactTeachSkillUptoRow : OpenClaim := { program := "yteghebjnaggmoaa", sum := "56ace0487e00d860c4cd9914d91e59b9256bc487057e4b870748c3663e601a20", func := "loop.example/g01023/laws.FnExactTeachSkill", spec := "fnExactTeachSkill", unfollowed := true, recurses := true, apart := false, narrowed := true }
def FnExactTeachSkillUptoSaid : Prop := fnExactTeachSkillUptoRow.holds Try.pinned (OpenSpec.upto fnExactTeachSkillSpec)

/-- 'laws.FnExactLoomsUsed', WHERE WHAT IT READS IS OF BULK AT MOST 1048576: true; the input reads as it did. -/
def fnExactLoomsUsedUptoRow : OpenClaim := { program := "yteghebjnaggmoaa", sum := "56ace0487e00d860c4cd9914d91e59b9256bc487057e4b870748c3663e601a20", func := "loop.example/g01023/laws.FnExactLoomsUsed", spec := "fnExactLoomsUsed", recurses := true, apart := false, narrowed := true }
def FnExactLoomsUsedUptoSaid : Prop := fnExactLoomsUsedUptoRow.holds Try.pinned (OpenSpec.upto fnExactLoomsUsedSpec)

end Rows
end Go.Proofs.Yteghebjnaggmoaa
