/-
  DERIVED. GIVEN WITH THE SEED: THE CARDS: each row of YtcingmfeepcpjaaDoorRows.lean that lists a variable, with what it lists TIED to the program's text (the seventh form; the later family's looks); each row that meets fmt, with fmt's text TOLD by the authors' own Lean function (tested against real Go, not proved from fmt's source: count such statements apart). THE CARD IS WHAT COUNTS. Prove the row's statement (the work); the ties are given (YtcingmfeepcpjaaDoorTie.lean); close each card by the builder's one call (the guide's Derived/Test/ToyasCard.lean, 'card_holds'). Laid BY PROGRAM, IN A SANDBOX (cutbox-door.mjs). By AI agents, Wed Nov 11 2026. No macro, syntax, notation, axiom, sorry.
-/
import Derived.Test.YtcingmfeepcpjaaDoorRows
import GoSem.ClaimSeven
namespace Go.Proofs.YtcingmfeepcpjaaDoor
namespace Rows

/-- THE TIED CARD OF 'laws.FnExactParseShade'. -/
def fnExactParseShadeCard : Claim7 := { stood := { row := fnExactParseShadeRow, standIns := [], harness := (true, "126fbc2439e8df42de3b7ce2df9ed2446e5d702f4ef564282ed0612b2eed6150"), looks := true }, kinds := [], alts := [], laidByText := true, laidKinds := [.data, .data, .data, .sentinel, .sentinel], laidTests := true, laidLooks := .later }
def FnExactParseShadeCardSaid : Prop := Claim7.holds Tryd.pinned (.plain (OpenSpec.ofChange fnExactParseShadeSpec)) fnExactParseShadeCard

/-- THE SECOND FORM's CARD OF 'laws.FnExactParseShade'. -/
def fnExactParseShadeUptoCard : Claim7 := { stood := { row := fnExactParseShadeUptoRow, standIns := [], harness := (true, "126fbc2439e8df42de3b7ce2df9ed2446e5d702f4ef564282ed0612b2eed6150"), looks := true }, kinds := [], alts := [], laidByText := true, laidKinds := [.data, .data, .data, .sentinel, .sentinel], laidTests := true, laidLooks := .later }
def FnExactParseShadeUptoCardSaid : Prop := Claim7.holds Tryd.pinned (.plain (OpenSpec.upto fnExactParseShadeSpec)) fnExactParseShadeUptoCard
end Rows
end Go.Proofs.YtcingmfeepcpjaaDoor
