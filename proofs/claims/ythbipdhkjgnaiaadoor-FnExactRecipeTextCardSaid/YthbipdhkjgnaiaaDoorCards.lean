/-
  DERIVED. GIVEN WITH THE SEED: THE CARDS: each row of YthbipdhkjgnaiaaDoorRows.lean that lists a variable, with what it lists TIED to the program's text (the seventh form; the later family's looks); each row that meets fmt, with fmt's text TOLD by the authors' own Lean function (tested against real Go, not proved from fmt's source: count such statements apart). THE CARD IS WHAT COUNTS. Prove the row's statement (the work); the ties are given (YthbipdhkjgnaiaaDoorTie.lean); close each card by the builder's one call (the guide's Derived/Test/ToyasCard.lean, 'card_holds'). Laid BY PROGRAM, IN A SANDBOX (cutbox-door.mjs). By AI agents, Wed Nov 11 2026. No macro, syntax, notation, axiom, sorry.
-/
import Derived.Test.YthbipdhkjgnaiaaDoorRows
import GoSem.ClaimSeven
namespace Go.Proofs.YthbipdhkjgnaiaaDoor
namespace Rows

/-- THE TIED CARD OF 'laws.FnExactRecipeText'. -/
def fnExactRecipeTextCard : Claim7 := { stood := { row := fnExactRecipeTextRow, standIns := [], harness := (true, "6512002d834fcf2294fe922189754cdb9bd88ca126f24c7c584a4a1158190ac2"), looks := false }, kinds := [], alts := [], laidByText := true, laidKinds := [.data, .data, .data], laidTests := true, laidLooks := .later }
def FnExactRecipeTextCardSaid : Prop := Claim7.holds Tryd.pinned (.plain (OpenSpec.ofChange fnExactRecipeTextSpec)) fnExactRecipeTextCard

/-- THE SECOND FORM's CARD OF 'laws.FnExactRecipeText'. -/
def fnExactRecipeTextUptoCard : Claim7 := { stood := { row := fnExactRecipeTextUptoRow, standIns := [], harness := (true, "6512002d834fcf2294fe922189754cdb9bd88ca126f24c7c584a4a1158190ac2"), looks := false }, kinds := [], alts := [], laidByText := true, laidKinds := [.data, .data, .data], laidTests := true, laidLooks := .later }
def FnExactRecipeTextUptoCardSaid : Prop := Claim7.holds Tryd.pinned (.plain (OpenSpec.upto fnExactRecipeTextSpec)) fnExactRecipeTextUptoCard
end Rows
end Go.Proofs.YthbipdhkjgnaiaaDoor
