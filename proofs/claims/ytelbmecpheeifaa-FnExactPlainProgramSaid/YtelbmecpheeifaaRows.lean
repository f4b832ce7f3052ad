/-
  No cell of these rows narrows 'for every input' (looked for: loops, veiled, ifaces, maps, wideKeys, modest, calm, conditions, laid).
  DERIVED. THE GIVEN ROWS OF THIS SEAT. 6 by the template 'for every input the law returns true; each argument reads behind the call as it read before'; 0 by the template 'total and deterministic' (their statements: YtelbmecpheeifaaTotals.lean).
  GIVEN WITH THE SEED: the statements are not yours to turn. If you find one false, say at which input.
  Laid BY PROGRAM, IN A SANDBOX (cutbox-rows.mjs): the forced cells as the released guide's own fill.sh prints them over the translation 8692851945ddff4e… (all of the seat's roots in one cut). By AI agents, Wed Nov 11 2026. No macro, syntax, notation, axiom, sorry.
-/
import Derived.Test.YtelbmecpheeifaaChecked
import GoSem.Claim
import GoSem.ClaimJoined
import GoSem.ClaimMapViews
import Derived.JoinedTies
import Derived.KernelRfl
namespace Go.Proofs.Ytelbmecpheeifaa
/- THE CELL 'sum', in the pinned program and in every row, IS THE sha256 OF THE DUMP (.gsa) THAT YtelbmecpheeifaaProg.lean LOADS. Nothing in Lean hashes anything: it is a label: what it is worth is what the hold of that sum in a sandbox is worth. -/
noncomputable def Try.pinned : Pinned := { name := "ytelbmecpheeifaa", sum := "8692851945ddff4e7155f425576426c22cc0323424c291e71c904d3741a42e51", checked := Try.checked }
namespace Rows
def none {H : Type} : Left H := { results := [], args := [] }

/-- 'laws.FnExactIsProgram': WHATEVER THE INPUT: true; the input reads as it did. -/
def fnExactIsProgramSpec : ChangeSpec := { name := "fnExactIsProgram", fn := fun _ => fun
  | [d] => { results := [.lit (.bool true)], args := [d] }
  | _ => none }
def fnExactIsProgramRow : OpenClaim := { program := "ytelbmecpheeifaa", sum := "8692851945ddff4e7155f425576426c22cc0323424c291e71c904d3741a42e51", func := "loop.example/g01023/laws.FnExactIsProgram", spec := "fnExactIsProgram", apart := false }
def FnExactIsProgramSaid : Prop := fnExactIsProgramRow.holds Try.pinned (OpenSpec.ofChange fnExactIsProgramSpec)

/-- ITS FALSE NEIGHBOUR: 'it returns false'. Refute it at one input. -/
def fnExactIsProgramWrong : ChangeSpec := { name := "fnExactIsProgram", fn := fun _ => fun
  | [d] => { results := [.lit (.bool false)], args := [d] }
  | _ => none }
def FnExactIsProgramWrongFalsely : Prop := fnExactIsProgramRow.holds Try.pinned (OpenSpec.ofChange fnExactIsProgramWrong)

/-- 'laws.FnExactRunDesign': WHATEVER THE INPUT: true; the input reads as it did. -/
def fnExactRunDesignSpec : ChangeSpec := { name := "fnExactRunDesign", fn := fun _ => fun
  | [d] => { results := [.lit (.bool true)], args := [d] }
  | _ => none }
def fnExactRunDesignRow : OpenClaim := { program := "ytelbmecpheeifaa", sum := "8692851945ddff4e7155f425576426c22cc0323424c291e71c904d3741a42e51", func := "loop.example/g01023/laws.FnExactRunDesign", spec := "fnExactRunDesign", unfollowed := true, recurses := true, apart := false }
def FnExactRunDesignSaid : Prop := fnExactRunDesignRow.holds Try.pinned (OpenSpec.ofChange fnExactRunDesignSpec)

/-- ITS FALSE NEIGHBOUR: 'it returns false'. Refute it at one input. -/
def fnExactRunDesignWrong : ChangeSpec := { name := "fnExactRunDesign", fn := fun _ => fun
  | [d] => { results := [.lit (.bool false)], args := [d] }
  | _ => none }
def FnExactRunDesignWrongFalsely : Prop := fnExactRunDesignRow.holds Try.pinned (OpenSpec.ofChange fnExactRunDesignWrong)

/-- 'laws.FnExactFailsAt': WHATEVER THE INPUT: true; the input reads as it did. -/
def fnExactFailsAtSpec : ChangeSpec := { name := "fnExactFailsAt", fn := fun _ => fun
  | [d] => { results := [.lit (.bool true)], args := [d] }
  | _ => none }
def fnExactFailsAtRow : OpenClaim := { program := "ytelbmecpheeifaa", sum := "8692851945ddff4e7155f425576426c22cc0323424c291e71c904d3741a42e51", func := "loop.example/g01023/laws.FnExactFailsAt", spec := "fnExactFailsAt", unfollowed := true, recurses := true, apart := false }
def FnExactFailsAtSaid : Prop := fnExactFailsAtRow.holds Try.pinned (OpenSpec.ofChange fnExactFailsAtSpec)

/-- ITS FALSE NEIGHBOUR: 'it returns false'. Refute it at one input. -/
def fnExactFailsAtWrong : ChangeSpec := { name := "fnExactFailsAt", fn := fun _ => fun
  | [d] => { results := [.lit (.bool false)], args := [d] }
  | _ => none }
def FnExactFailsAtWrongFalsely : Prop := fnExactFailsAtRow.holds Try.pinned (OpenSpec.ofChange fnExactFailsAtWrong)

/-- 'laws.FnExactStackSizes': WHATEVER THE INPUT: true; the input reads as it did. -/
def fnExactStackSizesSpec : ChangeSpec := { name := "fnExactStackSizes", fn := fun _ => fun
  | [d] => { results := [.lit (.bool true)], args := [d] }
  | _ => none }
def fnExactStackSizesRow : OpenClaim := { program := "ytelbmecpheeifaa", sum := "8692851945ddff4e7155f425576426c22cc0323424c291e71c904d3741a42e51", func := "loop.example/g01023/laws.FnExactStackSizes", spec := "fnExactStackSizes", unfollowed := true, recurses := true, apart := false }
def FnExactStackSizesSaid : Prop := fnExactStackSizesRow.holds Try.pinned (OpenSpec.ofChange fnExactStackSizesSpec)

/-- ITS FALSE NEIGHBOUR: 'it returns false'. Refute it at one input. -/
def fnExactStackSizesWrong : ChangeSpec := { name := "fnExactStackSizes", fn := fun _ => fun
  | [d] => { results := [.lit (.bool false)], args := [d] }
  | _ => none }
def FnExactStackSizesWrongFalsely : Prop := fnExactStackSizesRow.holds Try.pinned (OpenSpec.ofChange fnExactStackSizesWrong)

/-- 'laws.FnExactPlainProgram': WHATEVER THE INPUT: true; the input reads as it did. -/
def fnExactPlainProgramSpec : ChangeSpec := { name := "fnExactPlainProgram", fn := fun _ => fun
  | [d] => { results := [.lit (.bool true)], args := [d] }
  | _ => none }
def fnExactPlainProgramRow : OpenClaim := { program := "ytelbmecpheeifaa", sum := "8692851945ddff4e7155f425576426c22cc0323424c291e71c904d3741a42e51", func := "loop.example/g01023/laws.FnExactPlainProgram", spec := "fnExactPlainProgram", unfollowed := true, recurses := true, apart := false }
def FnExactPlainProgramSaid : Prop := fnExactPlainProgramRow.holds Try.pinned (OpenSpec.ofChange fnExactPlainProgramSpec)

/-- ITS FALSE NEIGHBOUR: 'it returns false'. Refute it at one input. -/
def fnExactPlainProgramWrong : ChangeSpec := { name := "fnExactPlainProgram", fn := fun _ => fun
  | [d] => { results := [.lit (.bool false)], args := [d] }
  | _ => none }
def FnExactPlainProgramWrongFalsely : Prop := fnExactPlainProgramRow.holds Try.pinned (OpenSpec.ofChange fnExactPlainProgramWrong)

/-- 'laws.FnExactColorsUsed': WHATEVER THE INPUT: true; the input reads as it did. -/
def fnExactColorsUsedSpec : ChangeSpec := { name := "fnExactColorsUsed", fn := fun _ => fun
  | [d] => { results := [.lit (.bool true)], args := [d] }
  | _ => none }
def fnExactColorsUsedRow : OpenClaim := { program := "ytelbmecpheeifaa", sum := "8692851945ddff4e7155f425576426c22cc0323424c291e71c904d3741a42e51", func := "loop.example/g01023/laws.FnExactColorsUsed", spec := "fnExactColorsUsed", recurses := true, apart := false }
def FnExactColorsUsedSaid : Prop := fnExactColorsUsedRow.holds Try.pinned (OpenSpec.ofChange fnExactColorsUsedSpec)

/-- ITS FALSE NEIGHBOUR: 'it returns false'. Refute it at one input. -/
def fnExactColorsUsedWrong : ChangeSpec := { name := "fnExactColorsUsed", fn := fun _ => fun
  | [d] => { results := [.lit (.bool false)], args := [d] }
  | _ => none }
def FnExactColorsUsedWrongFalsely : Prop := fnExactColorsUsedRow.holds Try.pinned (OpenSpec.ofChange fnExactColorsUsedWrong)

/- THE SECOND FORM. 'bulk': how many values and letters a reading holds, each counted each time it is reached (what is shared counts as often as it is met; a slice's spare places count too). A statement '..UptoSaid' is the law's where the arguments, and the package variables that the reading takes, are together of bulk at most 1048576: NARROWER than '..Said'. Prove '..Said' where nothing that the law and all that it calls make is longer than what came in: it says more and counts as full. Else prove '..UptoSaid'. A law counts once. -/
mutual
def uptoBulk {H : Type} : DataW H → Nat
  | .lit (.string bytes) => bytes.length + 1
  | .lit _ => 1
  | .nil => 1
  | .ptr d => uptoBulk d + 1
  | .slice elems spare => uptoBulkAll elems + uptoBulkAll spare + 1
  | .agg parts => uptoBulkAll parts + 1
  | .iface _ d => uptoBulk d + 1
  | .map entries => uptoBulkEntries entries + 1
  | .held _ => 1
def uptoBulkAll {H : Type} : List (DataW H) → Nat
  | [] => 0
  | d :: r => uptoBulk d + uptoBulkAll r
def uptoBulkEntries {H : Type} : List (Lit × DataW H) → Nat
  | [] => 0
  | x :: r => uptoBulkEntry x + uptoBulkEntries r
def uptoBulkEntry {H : Type} : Lit × DataW H → Nat
  | (.string bytes, d) => bytes.length + uptoBulk d + 1
  | (_, d) => uptoBulk d + 1
 end
def uptoSmall : (H : Type) → List (DataW H) → Bool := fun _ ds => decide (uptoBulkAll ds ≤ 1048576)
def OpenSpec.upto (s : _root_.Go.ChangeSpec) : _root_.Go.OpenSpec := { _root_.Go.OpenSpec.ofChange s with cond := some uptoSmall }

/-- 'laws.FnExactIsProgram', WHERE WHAT IT READS IS OF BULK AT MOST 1048576: true; the input reads as it did. -/
def fnExactIsProgramUptoRow : OpenClaim := { program := "ytelbmecpheeifaa", sum := "8692851945ddff4e7155f425576426c22cc0323424c291e71c904d3741a42e51", func := "loop.example/g01023/laws.FnExactIsProgram", spec := "fnExactIsProgram", apart := false, narrowed := true }
def FnExactIsProgramUptoSaid : Prop := fnExactIsProgramUptoRow.holds Try.pinned (OpenSpec.upto fnExactIsProgramSpec)

/-- 'laws.FnExactRunDesign', WHERE WHAT IT READS IS OF BULK AT MOST 1048576: true; the input reads as it did. -/
def fnExactRunDesignUptoRow : OpenClaim := { program := "ytelbmecpheeifaa", sum := "8692851945ddff4e7155f425576426c22cc0323424c291e71c904d3741a42e51", func := "loop.example/g01023/laws.FnExactRunDesign", spec := "fnExactRunDesign", unfollowed := true, recurses := true, apart := false, narrowed := true }
def FnExactRunDesignUptoSaid : Prop := fnExactRunDesignUptoRow.holds Try.pinned (OpenSpec.upto fnExactRunDesignSpec)

/-- 'laws.FnExactFailsAt', WHERE WHAT IT READS IS OF BULK AT MOST 1048576: true; the input reads as it did. -/
def fnExactFailsAtUptoRow : OpenClaim := { program := "ytelbmecpheeifaa", sum := "8692851945ddff4e7155f425576426c22cc0323424c291e71c904d3741a42e51", func := "loop.example/g01023/laws.FnExactFailsAt", spec := "fnExactFailsAt", unfollowed := true, recurses := true, apart := false, narrowed := true }
def FnExactFailsAtUptoSaid : Prop := fnExactFailsAtUptoRow.holds Try.pinned (OpenSpec.upto fnExactFailsAtSpec)

/-- 'laws.FnExactStackSizes', WHERE WHAT IT READS IS OF BULK AT MOST 1048576: true; the input reads as it did. -/
def fnExactStackSizesUptoRow : OpenClaim := { program := "ytelbmecpheeifaa", sum := "8692851945ddff4e7155f425576426c22cc0323424c291e71c904d3741a42e51", func := "loop.example/g01023/laws.FnExactStackSizes", spec := "fnExactStackSizes", unfollowed := true, recurses := true, apart := false, narrowed := true }
def FnExactStackSizesUptoSaid : Prop := fnExactStackSizesUptoRow.holds Try.pinned (OpenSpec.upto fnExactStackSizesSpec)

/-- 'laws.FnExactPlainProgram', WHERE WHAT IT READS IS OF BULK AT MOST 1048576: true; the input reads as it did. -/
def fnExactPlainProgramUptoRow : OpenClaim := { program := "ytelbmecpheeifaa", sum := "8692851945ddff4e7155f425576426c22cc0323424c291e71c904d3741a42e51", func := "loop.example/g01023/laws.FnExactPlainProgram", spec := "fnExactPlainProgram", unfollowed := true, recurses := true, apart := false, narrowed := true }
def FnExactPlainProgramUptoSaid : Prop := fnExactPlainProgramUptoRow.holds Try.pinned (OpenSpec.upto fnExactPlainProgramSpec)

/-- 'laws.FnExactColorsUsed', WHERE WHAT IT READS IS OF BULK AT MOST 1048576: true; the input reads as it did. -/
def fnExactColorsUsedUptoRow : OpenClaim := { program := "ytelbmecpheeifaa", sum := "8692851945ddff4e7155f425576426c22cc0323424c291e71c904d3741a42e51", func := "loop.example/g01023/laws.FnExactColorsUsed", spec := "fnExactColorsUsed", recurses := true, apart := false, narrowed := true }
def FnExactColorsUsedUptoSaid : Prop := fnExactColorsUsedUptoRow.holds Try.pinned (OpenSpec.upto fnExactColorsUsedSpec)

end Rows
end Go.Proofs.Ytelbmecpheeifaa
