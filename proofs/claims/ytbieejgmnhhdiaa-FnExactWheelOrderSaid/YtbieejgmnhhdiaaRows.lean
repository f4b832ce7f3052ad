/-
  No cell of these rows narrows 'for every input' (looked for: loops, veiled, ifaces, maps, wideKeys, modest, calm, conditions, laid).
  DERIVED. THE GIVEN ROWS OF THIS SEAT. 3 by the template 'for every input the law returns true; each argument reads behind the call as it read before'; 0 by the template 'total and deterministic' (their statements: YtbieejgmnhhdiaaTotals.lean).
  GIVEN WITH THE SEED: the statements are not yours to turn. If you find one false, say at which input.
  Laid BY PROGRAM, IN A SANDBOX (cutbox-rows.mjs): the forced cells as the released guide's own fill.sh prints them over the translation b6b8101f18f16881… (all of the seat's roots in one cut). By AI agents, Wed Nov 11 2026. No macro, syntax, notation, axiom, sorry.
-/
import Derived.Test.YtbieejgmnhhdiaaChecked
import GoSem.Claim
import GoSem.ClaimJoined
import GoSem.ClaimMapViews
import Derived.JoinedTies
import Derived.KernelRfl
namespace Go.Proofs.Ytbieejgmnhhdiaa
/- THE CELL 'sum', in the pinned program and in every row, IS THE sha256 OF THE DUMP (.gsa) THAT YtbieejgmnhhdiaaProg.lean LOADS. Nothing in Lean hashes anything: it is a label: what it is worth is what the hold of that sum in a sandbox is worth. -/
noncomputable def Try.pinned : Pinned := { name := "ytbieejgmnhhdiaa", sum := "b6b8101f18f1688126d94d5abb8932074d1e94e314d3d2aa50afafa917c0a95c", checked := Try.checked }
namespace Rows
def none {H : Type} : Left H := { results := [], args := [] }

/-- 'laws.FnExactFadedApart': WHATEVER THE INPUT: true; the input reads as it did. -/
def fnExactFadedApartSpec : ChangeSpec := { name := "fnExactFadedApart", fn := fun _ => fun
  | [d1, d2, d3] => { results := [.lit (.bool true)], args := [d1, d2, d3] }
  | _ => none }
def fnExactFadedApartRow : OpenClaim := { program := "ytbieejgmnhhdiaa", sum := "b6b8101f18f1688126d94d5abb8932074d1e94e314d3d2aa50afafa917c0a95c", func := "loop.example/g01023/laws.FnExactFadedApart", spec := "fnExactFadedApart", apart := false }
def FnExactFadedApartSaid : Prop := fnExactFadedApartRow.holds Try.pinned (OpenSpec.ofChange fnExactFadedApartSpec)

/-- ITS FALSE NEIGHBOUR: 'it returns false'. Refute it at one input. -/
def fnExactFadedApartWrong : ChangeSpec := { name := "fnExactFadedApart", fn := fun _ => fun
  | [d1, d2, d3] => { results := [.lit (.bool false)], args := [d1, d2, d3] }
  | _ => none }
def FnExactFadedApartWrongFalsely : Prop := fnExactFadedApartRow.holds Try.pinned (OpenSpec.ofChange fnExactFadedApartWrong)

/-- 'laws.FnExactTriadsOf': WHATEVER THE INPUT: true; the input reads as it did. -/
def fnExactTriadsOfSpec : ChangeSpec := { name := "fnExactTriadsOf", fn := fun _ => fun
  | [d1, d2] => { results := [.lit (.bool true)], args := [d1, d2] }
  | _ => none }
def fnExactTriadsOfRow : OpenClaim := { program := "ytbieejgmnhhdiaa", sum := "b6b8101f18f1688126d94d5abb8932074d1e94e314d3d2aa50afafa917c0a95c", func := "loop.example/g01023/laws.FnExactTriadsOf", spec := "fnExactTriadsOf", apart := false }
def FnExactTriadsOfSaid : Prop := fnExactTriadsOfRow.holds Try.pinned (OpenSpec.ofChange fnExactTriadsOfSpec)

/-- ITS FALSE NEIGHBOUR: 'it returns false'. Refute it at one input. -/
def fnExactTriadsOfWrong : ChangeSpec := { name := "fnExactTriadsOf", fn := fun _ => fun
  | [d1, d2] => { results := [.lit (.bool false)], args := [d1, d2] }
  | _ => none }
def FnExactTriadsOfWrongFalsely : Prop := fnExactTriadsOfRow.holds Try.pinned (OpenSpec.ofChange fnExactTriadsOfWrong)

/-- 'laws.FnExactWheelOrder': WHATEVER THE INPUT: true; the input reads as it did. -/
def fnExactWheelOrderSpec : ChangeSpec := { name := "fnExactWheelOrder", fn := fun _ => fun
  | [d1, d2] => { results := [.lit (.bool true)], args := [d1, d2] }
  | _ => none }
def fnExactWheelOrderRow : OpenClaim := { program := "ytbieejgmnhhdiaa", sum := "b6b8101f18f1688126d94d5abb8932074d1e94e314d3d2aa50afafa917c0a95c", func := "loop.example/g01023/laws.FnExactWheelOrder", spec := "fnExactWheelOrder", unfollowed := true, recurses := true, apart := false }
def FnExactWheelOrderSaid : Prop := fnExactWheelOrderRow.holds Try.pinned (OpenSpec.ofChange fnExactWheelOrderSpec)

/-- ITS FALSE NEIGHBOUR: 'it returns false'. Refute it at one input. -/
def fnExactWheelOrderWrong : ChangeSpec := { name := "fnExactWheelOrder", fn := fun _ => fun
  | [d1, d2] => { results := [.lit (.bool false)], args := [d1, d2] }
  | _ => none }
def FnExactWheelOrderWrongFalsely : Prop := fnExactWheelOrderRow.holds Try.pinned (OpenSpec.ofChange fnExactWheelOrderWrong)

/- THE SECOND FORM. 'bulk': how many values and letters a reading holds, each counted each time it is reached (what is shared counts as often as it is met; a slice's spare places count too). A statement '..UptoSaid' is the law's where the arguments, and the package variables that the reading takes, are together of bulk at most 1048576: NARROWER than '..Said'. Prove '..Said' where nothing that the law and all that it calls make is longer than what came in: it says more and counts as full. Else prove '..UptoSaid'. A law counts once. -/
mutual
def uptoBulk {H : Type} : DataW H → Nat
  | .lit (.string bytes) => bytes.length + 1
  | .lit _ => 1
  | .nil => 1
  | .ptr d => uptoBulk d + 1
  | .slice elems spare => uptoBulkAll elems + uptoBulkAll spare + 1
  | .agg parts => uptoBulkAll parts + 1
  | .iface _ d => uptoBulk d + 1
  | .map entries => uptoBulkEntries entries + 1
  | .held _ => 1
def uptoBulkAll {H : Type} : List (DataW H) → Nat
  | [] => 0
  | d :: r => uptoBulk d + uptoBulkAll r
def uptoBulkEntries {H : Type} : List (Lit × DataW H) → Nat
  | [] => 0
  | x :: r => uptoBulkEntry x + uptoBulkEntries r
def uptoBulkEntry {H : Type} : Lit × DataW H → Nat
  | (.string bytes, d) => bytes.length + uptoBulk d + 1
  | (_, d) => uptoBulk d + 1
 end
def uptoSmall : (H : Type) → List (DataW H) → Bool := fun _ ds => decide (uptoBulkAll ds ≤ 1048576)
def OpenSpec.upto (s : _root_.Go.ChangeSpec) : _root_.Go.OpenSpec := { _root_.Go.OpenSpec.ofChange s with cond := some uptoSmall }

/-- 'laws.FnExactFadedApart', WHERE WHAT IT READS IS OF BULK AT MOST 1048576: true; the input reads as it did. -/
def fnExactFadedApartUptoRow : OpenClaim := { program := "ytbieejgmnhhdiaa", sum := "b6b8101f18f1688126d94d5abb8932074d1e94e314d3d2aa50afafa917c0a95c", func := "loop.example/g01023/laws.FnExactFadedApart", spec := "fnExactFadedApart", apart := false, narrowed := true }
def FnExactFadedApartUptoSaid : Prop := fnExactFadedApartUptoRow.holds Try.pinned (OpenSpec.upto fnExactFadedApartSpec)

/-- 'laws.FnExactTriadsOf', WHERE WHAT IT READS IS OF BULK AT MOST 1048576: true; the input reads as it did. -/
def fnExactTriadsOfUptoRow : OpenClaim := { program := "ytbieejgmnhhdiaa", sum := "b6b8101f18f1688126d94d5abb8932074d1e94e314d3d2aa50afafa917c0a95c", func := "loop.example/g01023/laws.FnExactTriadsOf", spec := "fnExactTriadsOf", apart := false, narrowed := true }
def FnExactTriadsOfUptoSaid : Prop := fnExactTriadsOfUptoRow.holds Try.pinned (OpenSpec.upto fnExactTriadsOfSpec)

/-- 'laws.FnExactWheelOrder', WHERE WHAT IT READS IS OF BULK AT MOST 1048576: true; the input reads as it did. -/
def fnExactWheelOrderUptoRow : OpenClaim := { program := "ytbieejgmnhhdiaa", sum := "b6b8101f18f1688126d94d5abb8932074d1e94e314d3d2aa50afafa917c0a95c", func := "loop.example/g01023/laws.FnExactWheelOrder", spec := "fnExactWheelOrder", unfollowed := true, recurses := true, apart := false, narrowed := true }
def FnExactWheelOrderUptoSaid : Prop := fnExactWheelOrderUptoRow.holds Try.pinned (OpenSpec.upto fnExactWheelOrderSpec)

end Rows
end Go.Proofs.Ytbieejgmnhhdiaa
