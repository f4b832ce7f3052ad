/-
  DERIVED. GIVEN WITH THE SEED: THE CARDS: each row of YtabkckjclgkecaaDoorRows.lean that lists a variable, with what it lists TIED to the program's text (the seventh form; the later family's looks); each row that meets fmt, with fmt's text TOLD by the authors' own Lean function (tested against real Go, not proved from fmt's source: count such statements apart). THE CARD IS WHAT COUNTS. Prove the row's statement (the work); the ties are given (YtabkckjclgkecaaDoorTie.lean); close each card by the builder's one call (the guide's Derived/Test/ToyasCard.lean, 'card_holds'). Laid BY PROGRAM, IN A SANDBOX (cutbox-door.mjs). By AI agents, Wed Nov 11 2026. No macro, syntax, notation, axiom, sorry.
-/
import Derived.Test.YtabkckjclgkecaaDoorRows
import GoSem.ClaimSeven
namespace Go.Proofs.YtabkckjclgkecaaDoor
namespace Rows

/-- THE TIED CARD OF 'laws.FnExactDesignText'. -/
def fnExactDesignTextCard : Claim7 := { stood := { row := fnExactDesignTextRow, standIns := [], harness := (true, "7d77e46fbef9d6e45a69a049144efd599d55b8eed5a25eeb3f40d1da46f986e5"), looks := false }, kinds := [], alts := [], laidByText := true, laidKinds := [.data, .data, .data], laidTests := true, laidLooks := .later }
def FnExactDesignTextCardSaid : Prop := Claim7.holds Tryd.pinned (.plain (OpenSpec.ofChange fnExactDesignTextSpec)) fnExactDesignTextCard

/-- THE SECOND FORM's CARD OF 'laws.FnExactDesignText'. -/
def fnExactDesignTextUptoCard : Claim7 := { stood := { row := fnExactDesignTextUptoRow, standIns := [], harness := (true, "7d77e46fbef9d6e45a69a049144efd599d55b8eed5a25eeb3f40d1da46f986e5"), looks := false }, kinds := [], alts := [], laidByText := true, laidKinds := [.data, .data, .data], laidTests := true, laidLooks := .later }
def FnExactDesignTextUptoCardSaid : Prop := Claim7.holds Tryd.pinned (.plain (OpenSpec.upto fnExactDesignTextSpec)) fnExactDesignTextUptoCard
end Rows
end Go.Proofs.YtabkckjclgkecaaDoor
