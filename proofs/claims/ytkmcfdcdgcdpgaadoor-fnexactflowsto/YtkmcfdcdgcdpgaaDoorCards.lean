/-
  DERIVED. GIVEN WITH THE SEED: THE CARDS: each row of YtkmcfdcdgcdpgaaDoorRows.lean that lists a variable, with what it lists TIED to the program's text (the seventh form; the later family's looks); each row that meets fmt, with fmt's text TOLD by the authors' own Lean function (tested against real Go, not proved from fmt's source: count such statements apart). THE CARD IS WHAT COUNTS. Prove the row's statement (the work); the ties are given (YtkmcfdcdgcdpgaaDoorTie.lean); close each card by the builder's one call (the guide's Derived/Test/ToyasCard.lean, 'card_holds'). Laid BY PROGRAM, IN A SANDBOX (cutbox-door.mjs). By AI agents, Wed Nov 11 2026. No macro, syntax, notation, axiom, sorry.
-/
import Derived.Test.YtkmcfdcdgcdpgaaDoorRows
import GoSem.ClaimSeven
namespace Go.Proofs.YtkmcfdcdgcdpgaaDoor
namespace Rows

/-- THE TIED CARD OF 'laws.FnExactGraphFault'. -/
def fnExactGraphFaultCard : Claim7 := { stood := { row := fnExactGraphFaultRow, standIns := [], harness := (true, "eb7e7aaeadad4fbee508d68bceef5fff47d2234e617270442ad3b79bfa1c91cd"), looks := false }, kinds := [], alts := [], laidByText := true, laidKinds := [.data], laidTests := true, laidLooks := .later }
def FnExactGraphFaultCardSaid : Prop := Claim7.holds Tryd.pinned (.plain (OpenSpec.ofChange fnExactGraphFaultSpec)) fnExactGraphFaultCard

/-- THE TIED CARD OF 'laws.FnExactFlowsFrom'. -/
def fnExactFlowsFromCard : Claim7 := { stood := { row := fnExactFlowsFromRow, standIns := [], harness := (true, "eb7e7aaeadad4fbee508d68bceef5fff47d2234e617270442ad3b79bfa1c91cd"), looks := false }, kinds := [], alts := [], laidByText := true, laidKinds := [.data], laidTests := true, laidLooks := .later }
def FnExactFlowsFromCardSaid : Prop := Claim7.holds Tryd.pinned (.plain (OpenSpec.ofChange fnExactFlowsFromSpec)) fnExactFlowsFromCard

/-- THE TIED CARD OF 'laws.FnExactFlowsTo'. -/
def fnExactFlowsToCard : Claim7 := { stood := { row := fnExactFlowsToRow, standIns := [], harness := (true, "eb7e7aaeadad4fbee508d68bceef5fff47d2234e617270442ad3b79bfa1c91cd"), looks := false }, kinds := [], alts := [], laidByText := true, laidKinds := [.data], laidTests := true, laidLooks := .later }
def FnExactFlowsToCardSaid : Prop := Claim7.holds Tryd.pinned (.plain (OpenSpec.ofChange fnExactFlowsToSpec)) fnExactFlowsToCard

/-- THE SECOND FORM's CARD OF 'laws.FnExactGraphFault'. -/
def fnExactGraphFaultUptoCard : Claim7 := { stood := { row := fnExactGraphFaultUptoRow, standIns := [], harness := (true, "eb7e7aaeadad4fbee508d68bceef5fff47d2234e617270442ad3b79bfa1c91cd"), looks := false }, kinds := [], alts := [], laidByText := true, laidKinds := [.data], laidTests := true, laidLooks := .later }
def FnExactGraphFaultUptoCardSaid : Prop := Claim7.holds Tryd.pinned (.plain (OpenSpec.upto fnExactGraphFaultSpec)) fnExactGraphFaultUptoCard

/-- THE SECOND FORM's CARD OF 'laws.FnExactFlowsFrom'. -/
def fnExactFlowsFromUptoCard : Claim7 := { stood := { row := fnExactFlowsFromUptoRow, standIns := [], harness := (true, "eb7e7aaeadad4fbee508d68bceef5fff47d2234e617270442ad3b79bfa1c91cd"), looks := false }, kinds := [], alts := [], laidByText := true, laidKinds := [.data], laidTests := true, laidLooks := .later }
def FnExactFlowsFromUptoCardSaid : Prop := Claim7.holds Tryd.pinned (.plain (OpenSpec.upto fnExactFlowsFromSpec)) fnExactFlowsFromUptoCard

/-- THE SECOND FORM's CARD OF 'laws.FnExactFlowsTo'. -/
def fnExactFlowsToUptoCard : Claim7 := { stood := { row := fnExactFlowsToUptoRow, standIns := [], harness := (true, "eb7e7aaeadad4fbee508d68bceef5fff47d2234e617270442ad3b79bfa1c91cd"), looks := false }, kinds := [], alts := [], laidByText := true, laidKinds := [.data], laidTests := true, laidLooks := .later }
def FnExactFlowsToUptoCardSaid : Prop := Claim7.holds Tryd.pinned (.plain (OpenSpec.upto fnExactFlowsToSpec)) fnExactFlowsToUptoCard
end Rows
end Go.Proofs.YtkmcfdcdgcdpgaaDoor
