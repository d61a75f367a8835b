/-
  DERIVED. GIVEN WITH THE SEED: THE CARDS: each row of YtfgckeoigkoflaaGreatDoorRows.lean that lists a variable, with what it lists TIED to the program's text (the seventh form; the later family's looks); each row that meets fmt, with fmt's text TOLD by the authors' own Lean function (tested against real Go, not proved from fmt's source: count such statements apart). THE CARD IS WHAT COUNTS. Prove the row's statement (the work); the ties are given (YtfgckeoigkoflaaGreatDoorTie.lean); close each card by the builder's one call (the guide's Derived/Test/ToyasCard.lean, 'card_holds'). Laid BY PROGRAM, IN A SANDBOX (cutbox-door.mjs). By AI agents, Wed Nov 11 2026. No macro, syntax, notation, axiom, sorry.
-/
import Derived.Test.YtfgckeoigkoflaaGreatDoorRows
import GoSem.ClaimSeven
namespace Go.Proofs.YtfgckeoigkoflaaGreatDoor
namespace Rows

/-- THE TIED CARD OF 'laws.FnExactGraphOf'. -/
def fnExactGraphOfCard : Claim7 := { stood := { row := fnExactGraphOfRow, standIns := [], harness := (true, "a9f8641df781bc55257d694291f80847c75ceaee252e8632bbdc4550d76c71c8"), looks := true }, kinds := [], alts := [], laidByText := true, laidKinds := [.data, .data], laidTests := true, laidLooks := .later }
def FnExactGraphOfCardSaid : Prop := Claim7.holds Tryz.pinned (.plain (OpenSpec.ofChange fnExactGraphOfSpec)) fnExactGraphOfCard

/-- THE SECOND FORM's CARD OF 'laws.FnExactGraphOf'. -/
def fnExactGraphOfUptoCard : Claim7 := { stood := { row := fnExactGraphOfUptoRow, standIns := [], harness := (true, "a9f8641df781bc55257d694291f80847c75ceaee252e8632bbdc4550d76c71c8"), looks := true }, kinds := [], alts := [], laidByText := true, laidKinds := [.data, .data], laidTests := true, laidLooks := .later }
def FnExactGraphOfUptoCardSaid : Prop := Claim7.holds Tryz.pinned (.plain (OpenSpec.upto fnExactGraphOfSpec)) fnExactGraphOfUptoCard
end Rows
end Go.Proofs.YtfgckeoigkoflaaGreatDoor
