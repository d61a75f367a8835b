/-
  DERIVED. GIVEN WITH THE SEED: THE CARDS: each row of YtdmekehlkfbigaaDoorRows.lean that lists a variable, with what it lists TIED to the program's text (the seventh form; the later family's looks); each row that meets fmt, with fmt's text TOLD by the authors' own Lean function (tested against real Go, not proved from fmt's source: count such statements apart). THE CARD IS WHAT COUNTS. Prove the row's statement (the work); the ties are given (YtdmekehlkfbigaaDoorTie.lean); close each card by the builder's one call (the guide's Derived/Test/ToyasCard.lean, 'card_holds'). Laid BY PROGRAM, IN A SANDBOX (cutbox-door.mjs). By AI agents, Wed Nov 11 2026. No macro, syntax, notation, axiom, sorry.
-/
import Derived.Test.YtdmekehlkfbigaaDoorRows
import GoSem.ClaimSeven
namespace Go.Proofs.YtdmekehlkfbigaaDoor
namespace Rows

/-- THE TIED CARD OF 'laws.FnExactChartFault'. -/
def fnExactChartFaultCard : Claim7 := { stood := { row := fnExactChartFaultRow, standIns := [], harness := (true, "94cfaa4ffa67fcbcd672b4fe1139ebbe58c10771bf130e0d44ef61a13043e6da"), looks := true }, kinds := [], alts := [], laidByText := true, laidKinds := [.data], laidTests := true, laidLooks := .later }
def FnExactChartFaultCardSaid : Prop := Claim7.holds Tryd.pinned (.plain (OpenSpec.ofChange fnExactChartFaultSpec)) fnExactChartFaultCard

/-- THE TIED CARD OF 'laws.FnExactOpenSteps'. -/
def fnExactOpenStepsCard : Claim7 := { stood := { row := fnExactOpenStepsRow, standIns := [], harness := (true, "94cfaa4ffa67fcbcd672b4fe1139ebbe58c10771bf130e0d44ef61a13043e6da"), looks := true }, kinds := [], alts := [], laidByText := true, laidKinds := [.data], laidTests := true, laidLooks := .later }
def FnExactOpenStepsCardSaid : Prop := Claim7.holds Tryd.pinned (.plain (OpenSpec.ofChange fnExactOpenStepsSpec)) fnExactOpenStepsCard

/-- THE SECOND FORM's CARD OF 'laws.FnExactChartFault'. -/
def fnExactChartFaultUptoCard : Claim7 := { stood := { row := fnExactChartFaultUptoRow, standIns := [], harness := (true, "94cfaa4ffa67fcbcd672b4fe1139ebbe58c10771bf130e0d44ef61a13043e6da"), looks := true }, kinds := [], alts := [], laidByText := true, laidKinds := [.data], laidTests := true, laidLooks := .later }
def FnExactChartFaultUptoCardSaid : Prop := Claim7.holds Tryd.pinned (.plain (OpenSpec.upto fnExactChartFaultSpec)) fnExactChartFaultUptoCard

/-- THE SECOND FORM's CARD OF 'laws.FnExactOpenSteps'. -/
def fnExactOpenStepsUptoCard : Claim7 := { stood := { row := fnExactOpenStepsUptoRow, standIns := [], harness := (true, "94cfaa4ffa67fcbcd672b4fe1139ebbe58c10771bf130e0d44ef61a13043e6da"), looks := true }, kinds := [], alts := [], laidByText := true, laidKinds := [.data], laidTests := true, laidLooks := .later }
def FnExactOpenStepsUptoCardSaid : Prop := Claim7.holds Tryd.pinned (.plain (OpenSpec.upto fnExactOpenStepsSpec)) fnExactOpenStepsUptoCard
end Rows
end Go.Proofs.YtdmekehlkfbigaaDoor
