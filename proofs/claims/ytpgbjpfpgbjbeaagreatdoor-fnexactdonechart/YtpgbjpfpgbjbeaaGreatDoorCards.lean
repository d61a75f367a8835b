/-
  DERIVED. GIVEN WITH THE SEED: THE CARDS: each row of YtpgbjpfpgbjbeaaGreatDoorRows.lean that lists a variable, with what it lists TIED to the program's text (the seventh form; the later family's looks); each row that meets fmt, with fmt's text TOLD by the authors' own Lean function (tested against real Go, not proved from fmt's source: count such statements apart). THE CARD IS WHAT COUNTS. Prove the row's statement (the work); the ties are given (YtpgbjpfpgbjbeaaGreatDoorTie.lean); close each card by the builder's one call (the guide's Derived/Test/ToyasCard.lean, 'card_holds'). Laid BY PROGRAM, IN A SANDBOX (cutbox-door.mjs). By AI agents, Wed Nov 11 2026. No macro, syntax, notation, axiom, sorry.
-/
import Derived.Test.YtpgbjpfpgbjbeaaGreatDoorRows
import GoSem.ClaimSeven
namespace Go.Proofs.YtpgbjpfpgbjbeaaGreatDoor
namespace Rows

/-- THE TIED CARD OF 'laws.FnExactStartChart'. -/
def fnExactStartChartCard : Claim7 := { stood := { row := fnExactStartChartRow, standIns := [], harness := (true, "500fc2397dd8f7b998d8924620c74ae491bab7261275d7a0028c6acd7fdfac4b"), looks := true }, kinds := [], alts := [], laidByText := true, laidKinds := [.data], laidTests := true, laidLooks := .later }
def FnExactStartChartCardSaid : Prop := Claim7.holds Tryz.pinned (.plain (OpenSpec.ofChange fnExactStartChartSpec)) fnExactStartChartCard

/-- THE TIED CARD OF 'laws.FnExactDoneChart'. -/
def fnExactDoneChartCard : Claim7 := { stood := { row := fnExactDoneChartRow, standIns := [], harness := (true, "500fc2397dd8f7b998d8924620c74ae491bab7261275d7a0028c6acd7fdfac4b"), looks := true }, kinds := [], alts := [], laidByText := true, laidKinds := [.data], laidTests := true, laidLooks := .later }
def FnExactDoneChartCardSaid : Prop := Claim7.holds Tryz.pinned (.plain (OpenSpec.ofChange fnExactDoneChartSpec)) fnExactDoneChartCard

/-- THE TIED CARD OF 'laws.FnExactTickChart'. -/
def fnExactTickChartCard : Claim7 := { stood := { row := fnExactTickChartRow, standIns := [], harness := (true, "500fc2397dd8f7b998d8924620c74ae491bab7261275d7a0028c6acd7fdfac4b"), looks := true }, kinds := [], alts := [], laidByText := true, laidKinds := [.data], laidTests := true, laidLooks := .later }
def FnExactTickChartCardSaid : Prop := Claim7.holds Tryz.pinned (.plain (OpenSpec.ofChange fnExactTickChartSpec)) fnExactTickChartCard

/-- THE TIED CARD OF 'laws.FnExactMailChart'. -/
def fnExactMailChartCard : Claim7 := { stood := { row := fnExactMailChartRow, standIns := [], harness := (true, "500fc2397dd8f7b998d8924620c74ae491bab7261275d7a0028c6acd7fdfac4b"), looks := true }, kinds := [], alts := [], laidByText := true, laidKinds := [.data], laidTests := true, laidLooks := .later }
def FnExactMailChartCardSaid : Prop := Claim7.holds Tryz.pinned (.plain (OpenSpec.ofChange fnExactMailChartSpec)) fnExactMailChartCard

/-- THE SECOND FORM's CARD OF 'laws.FnExactStartChart'. -/
def fnExactStartChartUptoCard : Claim7 := { stood := { row := fnExactStartChartUptoRow, standIns := [], harness := (true, "500fc2397dd8f7b998d8924620c74ae491bab7261275d7a0028c6acd7fdfac4b"), looks := true }, kinds := [], alts := [], laidByText := true, laidKinds := [.data], laidTests := true, laidLooks := .later }
def FnExactStartChartUptoCardSaid : Prop := Claim7.holds Tryz.pinned (.plain (OpenSpec.upto fnExactStartChartSpec)) fnExactStartChartUptoCard

/-- THE SECOND FORM's CARD OF 'laws.FnExactDoneChart'. -/
def fnExactDoneChartUptoCard : Claim7 := { stood := { row := fnExactDoneChartUptoRow, standIns := [], harness := (true, "500fc2397dd8f7b998d8924620c74ae491bab7261275d7a0028c6acd7fdfac4b"), looks := true }, kinds := [], alts := [], laidByText := true, laidKinds := [.data], laidTests := true, laidLooks := .later }
def FnExactDoneChartUptoCardSaid : Prop := Claim7.holds Tryz.pinned (.plain (OpenSpec.upto fnExactDoneChartSpec)) fnExactDoneChartUptoCard

/-- THE SECOND FORM's CARD OF 'laws.FnExactTickChart'. -/
def fnExactTickChartUptoCard : Claim7 := { stood := { row := fnExactTickChartUptoRow, standIns := [], harness := (true, "500fc2397dd8f7b998d8924620c74ae491bab7261275d7a0028c6acd7fdfac4b"), looks := true }, kinds := [], alts := [], laidByText := true, laidKinds := [.data], laidTests := true, laidLooks := .later }
def FnExactTickChartUptoCardSaid : Prop := Claim7.holds Tryz.pinned (.plain (OpenSpec.upto fnExactTickChartSpec)) fnExactTickChartUptoCard

/-- THE SECOND FORM's CARD OF 'laws.FnExactMailChart'. -/
def fnExactMailChartUptoCard : Claim7 := { stood := { row := fnExactMailChartUptoRow, standIns := [], harness := (true, "500fc2397dd8f7b998d8924620c74ae491bab7261275d7a0028c6acd7fdfac4b"), looks := true }, kinds := [], alts := [], laidByText := true, laidKinds := [.data], laidTests := true, laidLooks := .later }
def FnExactMailChartUptoCardSaid : Prop := Claim7.holds Tryz.pinned (.plain (OpenSpec.upto fnExactMailChartSpec)) fnExactMailChartUptoCard
end Rows
end Go.Proofs.YtpgbjpfpgbjbeaaGreatDoor
