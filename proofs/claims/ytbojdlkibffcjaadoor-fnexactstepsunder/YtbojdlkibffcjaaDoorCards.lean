/-
  DERIVED. GIVEN WITH THE SEED: THE CARDS: each row of YtbojdlkibffcjaaDoorRows.lean that lists a variable, with what it lists TIED to the program's text (the seventh form; the later family's looks); each row that meets fmt, with fmt's text TOLD by the authors' own Lean function (tested against real Go, not proved from fmt's source: count such statements apart). THE CARD IS WHAT COUNTS. Prove the row's statement (the work); the ties are given (YtbojdlkibffcjaaDoorTie.lean); close each card by the builder's one call (the guide's Derived/Test/ToyasCard.lean, 'card_holds'). Laid BY PROGRAM, IN A SANDBOX (cutbox-door.mjs). By AI agents, Wed Nov 11 2026. No macro, syntax, notation, axiom, sorry.
-/
import Derived.Test.YtbojdlkibffcjaaDoorRows
import GoSem.ClaimSeven
namespace Go.Proofs.YtbojdlkibffcjaaDoor
namespace Rows

/-- THE TIED CARD OF 'laws.FnExactStepsUnder'. -/
def fnExactStepsUnderCard : Claim7 := { stood := { row := fnExactStepsUnderRow, standIns := [], harness := (true, "5e89d046863f71cf54a736dd87c653f92bfbb695a383f5b853560f009c77bbff"), looks := true }, kinds := [], alts := [], laidByText := true, laidKinds := [.data], laidTests := true, laidLooks := .later }
def FnExactStepsUnderCardSaid : Prop := Claim7.holds Tryd.pinned (.plain (OpenSpec.ofChange fnExactStepsUnderSpec)) fnExactStepsUnderCard

/-- THE SECOND FORM's CARD OF 'laws.FnExactStepsUnder'. -/
def fnExactStepsUnderUptoCard : Claim7 := { stood := { row := fnExactStepsUnderUptoRow, standIns := [], harness := (true, "5e89d046863f71cf54a736dd87c653f92bfbb695a383f5b853560f009c77bbff"), looks := true }, kinds := [], alts := [], laidByText := true, laidKinds := [.data], laidTests := true, laidLooks := .later }
def FnExactStepsUnderUptoCardSaid : Prop := Claim7.holds Tryd.pinned (.plain (OpenSpec.upto fnExactStepsUnderSpec)) fnExactStepsUnderUptoCard
end Rows
end Go.Proofs.YtbojdlkibffcjaaDoor
