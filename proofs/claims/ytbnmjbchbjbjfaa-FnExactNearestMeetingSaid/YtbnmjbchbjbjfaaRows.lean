/-
  No cell of these rows narrows 'for every input' (looked for: loops, veiled, ifaces, maps, wideKeys, modest, calm, conditions, laid).
  DERIVED. THE GIVEN ROWS OF THIS SEAT. 9 by the template 'for every input the law returns true; each argument reads behind the call as it read before'; 0 by the template 'total and deterministic' (their statements: YtbnmjbchbjbjfaaTotals.lean).
  GIVEN WITH THE SEED: the statements are not yours to turn. If you find one false, say at which input.
  Laid BY PROGRAM, IN A SANDBOX (cutbox-rows.mjs): the forced cells as the released guide's own fill.sh prints them over the translation 6dbe6677a667a5c2… (all of the seat's roots in one cut). By AI agents, Wed Nov 11 2026. No macro, syntax, notation, axiom, sorry.
-/
import Derived.Test.YtbnmjbchbjbjfaaChecked
import GoSem.Claim
import GoSem.ClaimJoined
import GoSem.ClaimMapViews
import Derived.JoinedTies
import Derived.KernelRfl
namespace Go.Proofs.Ytbnmjbchbjbjfaa
/- THE CELL 'sum', in the pinned program and in every row, IS THE sha256 OF THE DUMP (.gsa) THAT YtbnmjbchbjbjfaaProg.lean LOADS. Nothing in Lean hashes anything: it is a label: what it is worth is what the hold of that sum in a sandbox is worth. -/
noncomputable def Try.pinned : Pinned := { name := "ytbnmjbchbjbjfaa", sum := "6dbe6677a667a5c229c47e64be0b3d8bd210e3ba760ec67f88574692a4effc59", checked := Try.checked }
namespace Rows
def none {H : Type} : Left H := { results := [], args := [] }

/-- 'laws.FnExactRingLength': WHATEVER THE INPUT: true; the input reads as it did. -/
def fnExactRingLengthSpec : ChangeSpec := { name := "fnExactRingLength", fn := fun _ => fun
  | [d1, d2] => { results := [.lit (.bool true)], args := [d1, d2] }
  | _ => none }
def fnExactRingLengthRow : OpenClaim := { program := "ytbnmjbchbjbjfaa", sum := "6dbe6677a667a5c229c47e64be0b3d8bd210e3ba760ec67f88574692a4effc59", func := "loop.example/g01023/laws.FnExactRingLength", spec := "fnExactRingLength", apart := false }
def FnExactRingLengthSaid : Prop := fnExactRingLengthRow.holds Try.pinned (OpenSpec.ofChange fnExactRingLengthSpec)

/-- ITS FALSE NEIGHBOUR: 'it returns false'. Refute it at one input. -/
def fnExactRingLengthWrong : ChangeSpec := { name := "fnExactRingLength", fn := fun _ => fun
  | [d1, d2] => { results := [.lit (.bool false)], args := [d1, d2] }
  | _ => none }
def FnExactRingLengthWrongFalsely : Prop := fnExactRingLengthRow.holds Try.pinned (OpenSpec.ofChange fnExactRingLengthWrong)

/-- 'laws.FnExactRingOf': WHATEVER THE INPUT: true; the input reads as it did. -/
def fnExactRingOfSpec : ChangeSpec := { name := "fnExactRingOf", fn := fun _ => fun
  | [d] => { results := [.lit (.bool true)], args := [d] }
  | _ => none }
def fnExactRingOfRow : OpenClaim := { program := "ytbnmjbchbjbjfaa", sum := "6dbe6677a667a5c229c47e64be0b3d8bd210e3ba760ec67f88574692a4effc59", func := "loop.example/g01023/laws.FnExactRingOf", spec := "fnExactRingOf", unfollowed := true, recurses := true, apart := false }
def FnExactRingOfSaid : Prop := fnExactRingOfRow.holds Try.pinned (OpenSpec.ofChange fnExactRingOfSpec)

/-- ITS FALSE NEIGHBOUR: 'it returns false'. Refute it at one input. -/
def fnExactRingOfWrong : ChangeSpec := { name := "fnExactRingOf", fn := fun _ => fun
  | [d] => { results := [.lit (.bool false)], args := [d] }
  | _ => none }
def FnExactRingOfWrongFalsely : Prop := fnExactRingOfRow.holds Try.pinned (OpenSpec.ofChange fnExactRingOfWrong)

/-- 'laws.FnExactPutRing': WHATEVER THE INPUT: true; the input reads as it did. -/
def fnExactPutRingSpec : ChangeSpec := { name := "fnExactPutRing", fn := fun _ => fun
  | [d1, d2] => { results := [.lit (.bool true)], args := [d1, d2] }
  | _ => none }
def fnExactPutRingRow : OpenClaim := { program := "ytbnmjbchbjbjfaa", sum := "6dbe6677a667a5c229c47e64be0b3d8bd210e3ba760ec67f88574692a4effc59", func := "loop.example/g01023/laws.FnExactPutRing", spec := "fnExactPutRing", unfollowed := true, recurses := true, apart := false }
def FnExactPutRingSaid : Prop := fnExactPutRingRow.holds Try.pinned (OpenSpec.ofChange fnExactPutRingSpec)

/-- ITS FALSE NEIGHBOUR: 'it returns false'. Refute it at one input. -/
def fnExactPutRingWrong : ChangeSpec := { name := "fnExactPutRing", fn := fun _ => fun
  | [d1, d2] => { results := [.lit (.bool false)], args := [d1, d2] }
  | _ => none }
def FnExactPutRingWrongFalsely : Prop := fnExactPutRingRow.holds Try.pinned (OpenSpec.ofChange fnExactPutRingWrong)

/-- 'laws.FnExactDoesMeet': WHATEVER THE INPUT: true; the input reads as it did. -/
def fnExactDoesMeetSpec : ChangeSpec := { name := "fnExactDoesMeet", fn := fun _ => fun
  | [d1, d2] => { results := [.lit (.bool true)], args := [d1, d2] }
  | _ => none }
def fnExactDoesMeetRow : OpenClaim := { program := "ytbnmjbchbjbjfaa", sum := "6dbe6677a667a5c229c47e64be0b3d8bd210e3ba760ec67f88574692a4effc59", func := "loop.example/g01023/laws.FnExactDoesMeet", spec := "fnExactDoesMeet", apart := false }
def FnExactDoesMeetSaid : Prop := fnExactDoesMeetRow.holds Try.pinned (OpenSpec.ofChange fnExactDoesMeetSpec)

/-- ITS FALSE NEIGHBOUR: 'it returns false'. Refute it at one input. -/
def fnExactDoesMeetWrong : ChangeSpec := { name := "fnExactDoesMeet", fn := fun _ => fun
  | [d1, d2] => { results := [.lit (.bool false)], args := [d1, d2] }
  | _ => none }
def FnExactDoesMeetWrongFalsely : Prop := fnExactDoesMeetRow.holds Try.pinned (OpenSpec.ofChange fnExactDoesMeetWrong)

/-- 'laws.FnExactAddBorder': WHATEVER THE INPUT: true; the input reads as it did. -/
def fnExactAddBorderSpec : ChangeSpec := { name := "fnExactAddBorder", fn := fun _ => fun
  | [d1, d2] => { results := [.lit (.bool true)], args := [d1, d2] }
  | _ => none }
def fnExactAddBorderRow : OpenClaim := { program := "ytbnmjbchbjbjfaa", sum := "6dbe6677a667a5c229c47e64be0b3d8bd210e3ba760ec67f88574692a4effc59", func := "loop.example/g01023/laws.FnExactAddBorder", spec := "fnExactAddBorder", unfollowed := true, recurses := true, apart := false }
def FnExactAddBorderSaid : Prop := fnExactAddBorderRow.holds Try.pinned (OpenSpec.ofChange fnExactAddBorderSpec)

/-- ITS FALSE NEIGHBOUR: 'it returns false'. Refute it at one input. -/
def fnExactAddBorderWrong : ChangeSpec := { name := "fnExactAddBorder", fn := fun _ => fun
  | [d1, d2] => { results := [.lit (.bool false)], args := [d1, d2] }
  | _ => none }
def FnExactAddBorderWrongFalsely : Prop := fnExactAddBorderRow.holds Try.pinned (OpenSpec.ofChange fnExactAddBorderWrong)

/-- 'laws.FnExactStripBorder': WHATEVER THE INPUT: true; the input reads as it did. -/
def fnExactStripBorderSpec : ChangeSpec := { name := "fnExactStripBorder", fn := fun _ => fun
  | [d] => { results := [.lit (.bool true)], args := [d] }
  | _ => none }
def fnExactStripBorderRow : OpenClaim := { program := "ytbnmjbchbjbjfaa", sum := "6dbe6677a667a5c229c47e64be0b3d8bd210e3ba760ec67f88574692a4effc59", func := "loop.example/g01023/laws.FnExactStripBorder", spec := "fnExactStripBorder", apart := false }
def FnExactStripBorderSaid : Prop := fnExactStripBorderRow.holds Try.pinned (OpenSpec.ofChange fnExactStripBorderSpec)

/-- ITS FALSE NEIGHBOUR: 'it returns false'. Refute it at one input. -/
def fnExactStripBorderWrong : ChangeSpec := { name := "fnExactStripBorder", fn := fun _ => fun
  | [d] => { results := [.lit (.bool false)], args := [d] }
  | _ => none }
def FnExactStripBorderWrongFalsely : Prop := fnExactStripBorderRow.holds Try.pinned (OpenSpec.ofChange fnExactStripBorderWrong)

/-- 'laws.FnExactRingPeriod': WHATEVER THE INPUT: true; the input reads as it did. -/
def fnExactRingPeriodSpec : ChangeSpec := { name := "fnExactRingPeriod", fn := fun _ => fun
  | [d] => { results := [.lit (.bool true)], args := [d] }
  | _ => none }
def fnExactRingPeriodRow : OpenClaim := { program := "ytbnmjbchbjbjfaa", sum := "6dbe6677a667a5c229c47e64be0b3d8bd210e3ba760ec67f88574692a4effc59", func := "loop.example/g01023/laws.FnExactRingPeriod", spec := "fnExactRingPeriod", unfollowed := true, recurses := true, apart := false }
def FnExactRingPeriodSaid : Prop := fnExactRingPeriodRow.holds Try.pinned (OpenSpec.ofChange fnExactRingPeriodSpec)

/-- ITS FALSE NEIGHBOUR: 'it returns false'. Refute it at one input. -/
def fnExactRingPeriodWrong : ChangeSpec := { name := "fnExactRingPeriod", fn := fun _ => fun
  | [d] => { results := [.lit (.bool false)], args := [d] }
  | _ => none }
def FnExactRingPeriodWrongFalsely : Prop := fnExactRingPeriodRow.holds Try.pinned (OpenSpec.ofChange fnExactRingPeriodWrong)

/-- 'laws.FnExactNearestMeeting': WHATEVER THE INPUT: true; the input reads as it did. -/
def fnExactNearestMeetingSpec : ChangeSpec := { name := "fnExactNearestMeeting", fn := fun _ => fun
  | [d1, d2, d3] => { results := [.lit (.bool true)], args := [d1, d2, d3] }
  | _ => none }
def fnExactNearestMeetingRow : OpenClaim := { program := "ytbnmjbchbjbjfaa", sum := "6dbe6677a667a5c229c47e64be0b3d8bd210e3ba760ec67f88574692a4effc59", func := "loop.example/g01023/laws.FnExactNearestMeeting", spec := "fnExactNearestMeeting", unfollowed := true, recurses := true, apart := false }
def FnExactNearestMeetingSaid : Prop := fnExactNearestMeetingRow.holds Try.pinned (OpenSpec.ofChange fnExactNearestMeetingSpec)

/-- ITS FALSE NEIGHBOUR: 'it returns false'. Refute it at one input. -/
def fnExactNearestMeetingWrong : ChangeSpec := { name := "fnExactNearestMeeting", fn := fun _ => fun
  | [d1, d2, d3] => { results := [.lit (.bool false)], args := [d1, d2, d3] }
  | _ => none }
def FnExactNearestMeetingWrongFalsely : Prop := fnExactNearestMeetingRow.holds Try.pinned (OpenSpec.ofChange fnExactNearestMeetingWrong)

/-- 'laws.FnExactCornersOf': WHATEVER THE INPUT: true; the input reads as it did. -/
def fnExactCornersOfSpec : ChangeSpec := { name := "fnExactCornersOf", fn := fun _ => fun
  | [d] => { results := [.lit (.bool true)], args := [d] }
  | _ => none }
def fnExactCornersOfRow : OpenClaim := { program := "ytbnmjbchbjbjfaa", sum := "6dbe6677a667a5c229c47e64be0b3d8bd210e3ba760ec67f88574692a4effc59", func := "loop.example/g01023/laws.FnExactCornersOf", spec := "fnExactCornersOf", apart := false }
def FnExactCornersOfSaid : Prop := fnExactCornersOfRow.holds Try.pinned (OpenSpec.ofChange fnExactCornersOfSpec)

/-- ITS FALSE NEIGHBOUR: 'it returns false'. Refute it at one input. -/
def fnExactCornersOfWrong : ChangeSpec := { name := "fnExactCornersOf", fn := fun _ => fun
  | [d] => { results := [.lit (.bool false)], args := [d] }
  | _ => none }
def FnExactCornersOfWrongFalsely : Prop := fnExactCornersOfRow.holds Try.pinned (OpenSpec.ofChange fnExactCornersOfWrong)

/- THE SECOND FORM. 'bulk': how many values and letters a reading holds, each counted each time it is reached (what is shared counts as often as it is met; a slice's spare places count too). A statement '..UptoSaid' is the law's where the arguments, and the package variables that the reading takes, are together of bulk at most 1048576: NARROWER than '..Said'. Prove '..Said' where nothing that the law and all that it calls make is longer than what came in: it says more and counts as full. Else prove '..UptoSaid'. A law counts once. -/
mutual
def uptoBulk {H : Type} : DataW H → Nat
  | .lit (.string bytes) => bytes.length + 1
  | .lit _ => 1
  | .nil => 1
  | .ptr d => uptoBulk d + 1
  | .slice elems spare => uptoBulkAll elems + uptoBulkAll spare + 1
  | .agg parts => uptoBulkAll parts + 1
  | .iface _ d => uptoBulk d + 1
  | .map entries => uptoBulkEntries entries + 1
  | .held _ => 1
def uptoBulkAll {H : Type} : List (DataW H) → Nat
  | [] => 0
  | d :: r => uptoBulk d + uptoBulkAll r
def uptoBulkEntries {H : Type} : List (Lit × DataW H) → Nat
  | [] => 0
  | x :: r => uptoBulkEntry x + uptoBulkEntries r
def uptoBulkEntry {H : Type} : Lit × DataW H → Nat
  | (.string bytes, d) => bytes.length + uptoBulk d + 1
  | (_, d) => uptoBulk d + 1
 end
def uptoSmall : (H : Type) → List (DataW H) → Bool := fun _ ds => decide (uptoBulkAll ds ≤ 1048576)
def OpenSpec.upto (s : _root_.Go.ChangeSpec) : _root_.Go.OpenSpec := { _root_.Go.OpenSpec.ofChange s with cond := some uptoSmall }

/-- 'laws.FnExactRingLength', WHERE WHAT IT READS IS OF BULK AT MOST 1048576: true; the input reads as it did. -/
def fnExactRingLengthUptoRow : OpenClaim := { program := "ytbnmjbchbjbjfaa", sum := "6dbe6677a667a5c229c47e64be0b3d8bd210e3ba760ec67f88574692a4effc59", func := "loop.example/g01023/laws.FnExactRingLength", spec := "fnExactRingLength", apart := false, narrowed := true }
def FnExactRingLengthUptoSaid : Prop := fnExactRingLengthUptoRow.holds Try.pinned (OpenSpec.upto fnExactRingLengthSpec)

/-- 'laws.FnExactRingOf', WHERE WHAT IT READS IS OF BULK AT MOST 1048576: true; the input reads as it did. -/
def fnExactRingOfUptoRow : OpenClaim := { program := "ytbnmjbchbjbjfaa", sum := "6dbe6677a667a5c229c47e64be0b3d8bd210e3ba760ec67f88574692a4effc59", func := "loop.example/g01023/laws.FnExactRingOf", spec := "fnExactRingOf", unfollowed := true, recurses := true, apart := false, narrowed := true }
def FnExactRingOfUptoSaid : Prop := fnExactRingOfUptoRow.holds Try.pinned (OpenSpec.upto fnExactRingOfSpec)

/-- 'laws.FnExactPutRing', WHERE WHAT IT READS IS OF BULK AT MOST 1048576: true; the input reads as it did. -/
def fnExactPutRingUptoRow : OpenClaim := { program := "ytbnmjbchbjbjfaa", sum := "6dbe6677a667a5c229c47e64be0b3d8bd210e3ba760ec67f88574692a4effc59", func := "loop.example/g01023/laws.FnExactPutRing", spec := "fnExactPutRing", unfollowed := true, recurses := true, apart := false, narrowed := true }
def FnExactPutRingUptoSaid : Prop := fnExactPutRingUptoRow.holds Try.pinned (OpenSpec.upto fnExactPutRingSpec)

/-- 'laws.FnExactDoesMeet', WHERE WHAT IT READS IS OF BULK AT MOST 1048576: true; the input reads as it did. -/
def fnExactDoesMeetUptoRow : OpenClaim := { program := "ytbnmjbchbjbjfaa", sum := "6dbe6677a667a5c229c47e64be0b3d8bd210e3ba760ec67f88574692a4effc59", func := "loop.example/g01023/laws.FnExactDoesMeet", spec := "fnExactDoesMeet", apart := false, narrowed := true }
def FnExactDoesMeetUptoSaid : Prop := fnExactDoesMeetUptoRow.holds Try.pinned (OpenSpec.upto fnExactDoesMeetSpec)

/-- 'laws.FnExactAddBorder', WHERE WHAT IT READS IS OF BULK AT MOST 1048576: true; the input reads as it did. -/
def fnExactAddBorderUptoRow : OpenClaim := { program := "ytbnmjbchbjbjfaa", sum := "6dbe6677a667a5c229c47e64be0b3d8bd210e3ba760ec67f88574692a4effc59", func := "loop.example/g01023/laws.FnExactAddBorder", spec := "fnExactAddBorder", unfollowed := true, recurses := true, apart := false, narrowed := true }
def FnExactAddBorderUptoSaid : Prop := fnExactAddBorderUptoRow.holds Try.pinned (OpenSpec.upto fnExactAddBorderSpec)

/-- 'laws.FnExactStripBorder', WHERE WHAT IT READS IS OF BULK AT MOST 1048576: true; the input reads as it did. -/
def fnExactStripBorderUptoRow : OpenClaim := { program := "ytbnmjbchbjbjfaa", sum := "6dbe6677a667a5c229c47e64be0b3d8bd210e3ba760ec67f88574692a4effc59", func := "loop.example/g01023/laws.FnExactStripBorder", spec := "fnExactStripBorder", apart := false, narrowed := true }
def FnExactStripBorderUptoSaid : Prop := fnExactStripBorderUptoRow.holds Try.pinned (OpenSpec.upto fnExactStripBorderSpec)

/-- 'laws.FnExactRingPeriod', WHERE WHAT IT READS IS OF BULK AT MOST 1048576: true; the input reads as it did. -/
def fnExactRingPeriodUptoRow : OpenClaim := { program := "ytbnmjbchbjbjfaa", sum := "6dbe6677a667a5c229c47e64be0b3d8bd210e3ba760ec67f88574692a4effc59", func := "loop.example/g01023/laws.FnExactRingPeriod", spec := "fnExactRingPeriod", unfollowed := true, recurses := true, apart := false, narrowed := true }
def FnExactRingPeriodUptoSaid : Prop := fnExactRingPeriodUptoRow.holds Try.pinned (OpenSpec.upto fnExactRingPeriodSpec)

/-- 'laws.FnExactNearestMeeting', WHERE WHAT IT READS IS OF BULK AT MOST 1048576: true; the input reads as it did. -/
def fnExactNearestMeetingUptoRow : OpenClaim := { program := "ytbnmjbchbjbjfaa", sum := "6dbe6677a667a5c229c47e64be0b3d8bd210e3ba760ec67f88574692a4effc59", func := "loop.example/g01023/laws.FnExactNearestMeeting", spec := "fnExactNearestMeeting", unfollowed := true, recurses := true, apart := false, narrowed := true }
def FnExactNearestMeetingUptoSaid : Prop := fnExactNearestMeetingUptoRow.holds Try.pinned (OpenSpec.upto fnExactNearestMeetingSpec)

/-- 'laws.FnExactCornersOf', WHERE WHAT IT READS IS OF BULK AT MOST 1048576: true; the input reads as it did. -/
def fnExactCornersOfUptoRow : OpenClaim := { program := "ytbnmjbchbjbjfaa", sum := "6dbe6677a667a5c229c47e64be0b3d8bd210e3ba760ec67f88574692a4effc59", func := "loop.example/g01023/laws.FnExactCornersOf", spec := "fnExactCornersOf", apart := false, narrowed := true }
def FnExactCornersOfUptoSaid : Prop := fnExactCornersOfUptoRow.holds Try.pinned (OpenSpec.upto fnExactCornersOfSpec)

end Rows
end Go.Proofs.Ytbnmjbchbjbjfaa
