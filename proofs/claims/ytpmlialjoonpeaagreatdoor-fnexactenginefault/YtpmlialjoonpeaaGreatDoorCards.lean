/-
  DERIVED. GIVEN WITH THE SEED: THE CARDS: each row of YtpmlialjoonpeaaGreatDoorRows.lean that lists a variable, with what it lists TIED to the program's text (the seventh form; the later family's looks); each row that meets fmt, with fmt's text TOLD by the authors' own Lean function (tested against real Go, not proved from fmt's source: count such statements apart). THE CARD IS WHAT COUNTS. Prove the row's statement (the work); the ties are given (YtpmlialjoonpeaaGreatDoorTie.lean); close each card by the builder's one call (the guide's Derived/Test/ToyasCard.lean, 'card_holds'). Laid BY PROGRAM, IN A SANDBOX (cutbox-door.mjs). By AI agents, Wed Nov 11 2026. No macro, syntax, notation, axiom, sorry.
-/
import Derived.Test.YtpmlialjoonpeaaGreatDoorRows
import GoSem.ClaimSeven
namespace Go.Proofs.YtpmlialjoonpeaaGreatDoor
namespace Rows

/-- THE TIED CARD OF 'laws.FnExactEngineFault'. -/
def fnExactEngineFaultCard : Claim7 := { stood := { row := fnExactEngineFaultRow, standIns := [], harness := (true, "be641ea668dc9c93377771a3a44c07c40c33fe03b617ed7d8e0c8fccd4aa02c4"), looks := true }, kinds := [], alts := [], laidByText := true, laidKinds := [.data], laidTests := true, laidLooks := .later }
def FnExactEngineFaultCardSaid : Prop := Claim7.holds Tryz.pinned (.plain (OpenSpec.ofChange fnExactEngineFaultSpec)) fnExactEngineFaultCard

/-- THE TIED CARD OF 'laws.FnExactNewEngine'. -/
def fnExactNewEngineCard : Claim7 := { stood := { row := fnExactNewEngineRow, standIns := [], harness := (true, "be641ea668dc9c93377771a3a44c07c40c33fe03b617ed7d8e0c8fccd4aa02c4"), looks := true }, kinds := [], alts := [], laidByText := true, laidKinds := [.data], laidTests := true, laidLooks := .later }
def FnExactNewEngineCardSaid : Prop := Claim7.holds Tryz.pinned (.plain (OpenSpec.ofChange fnExactNewEngineSpec)) fnExactNewEngineCard

/-- THE TIED CARD OF 'laws.FnExactStartInst'. -/
def fnExactStartInstCard : Claim7 := { stood := { row := fnExactStartInstRow, standIns := [], harness := (true, "be641ea668dc9c93377771a3a44c07c40c33fe03b617ed7d8e0c8fccd4aa02c4"), looks := true }, kinds := [], alts := [], laidByText := true, laidKinds := [.data], laidTests := true, laidLooks := .later }
def FnExactStartInstCardSaid : Prop := Claim7.holds Tryz.pinned (.plain (OpenSpec.ofChange fnExactStartInstSpec)) fnExactStartInstCard

/-- THE TIED CARD OF 'laws.FnExactDoneInst'. -/
def fnExactDoneInstCard : Claim7 := { stood := { row := fnExactDoneInstRow, standIns := [], harness := (true, "be641ea668dc9c93377771a3a44c07c40c33fe03b617ed7d8e0c8fccd4aa02c4"), looks := true }, kinds := [], alts := [], laidByText := true, laidKinds := [.data], laidTests := true, laidLooks := .later }
def FnExactDoneInstCardSaid : Prop := Claim7.holds Tryz.pinned (.plain (OpenSpec.ofChange fnExactDoneInstSpec)) fnExactDoneInstCard

/-- THE TIED CARD OF 'laws.FnExactMailInst'. -/
def fnExactMailInstCard : Claim7 := { stood := { row := fnExactMailInstRow, standIns := [], harness := (true, "be641ea668dc9c93377771a3a44c07c40c33fe03b617ed7d8e0c8fccd4aa02c4"), looks := true }, kinds := [], alts := [], laidByText := true, laidKinds := [.data], laidTests := true, laidLooks := .later }
def FnExactMailInstCardSaid : Prop := Claim7.holds Tryz.pinned (.plain (OpenSpec.ofChange fnExactMailInstSpec)) fnExactMailInstCard

/-- THE TIED CARD OF 'laws.FnExactTickEngine'. -/
def fnExactTickEngineCard : Claim7 := { stood := { row := fnExactTickEngineRow, standIns := [], harness := (true, "be641ea668dc9c93377771a3a44c07c40c33fe03b617ed7d8e0c8fccd4aa02c4"), looks := true }, kinds := [], alts := [], laidByText := true, laidKinds := [.data], laidTests := true, laidLooks := .later }
def FnExactTickEngineCardSaid : Prop := Claim7.holds Tryz.pinned (.plain (OpenSpec.ofChange fnExactTickEngineSpec)) fnExactTickEngineCard

/-- THE TIED CARD OF 'laws.FnExactDropInst'. -/
def fnExactDropInstCard : Claim7 := { stood := { row := fnExactDropInstRow, standIns := [], harness := (true, "be641ea668dc9c93377771a3a44c07c40c33fe03b617ed7d8e0c8fccd4aa02c4"), looks := true }, kinds := [], alts := [], laidByText := true, laidKinds := [.data], laidTests := true, laidLooks := .later }
def FnExactDropInstCardSaid : Prop := Claim7.holds Tryz.pinned (.plain (OpenSpec.ofChange fnExactDropInstSpec)) fnExactDropInstCard

/-- THE SECOND FORM's CARD OF 'laws.FnExactEngineFault'. -/
def fnExactEngineFaultUptoCard : Claim7 := { stood := { row := fnExactEngineFaultUptoRow, standIns := [], harness := (true, "be641ea668dc9c93377771a3a44c07c40c33fe03b617ed7d8e0c8fccd4aa02c4"), looks := true }, kinds := [], alts := [], laidByText := true, laidKinds := [.data], laidTests := true, laidLooks := .later }
def FnExactEngineFaultUptoCardSaid : Prop := Claim7.holds Tryz.pinned (.plain (OpenSpec.upto fnExactEngineFaultSpec)) fnExactEngineFaultUptoCard

/-- THE SECOND FORM's CARD OF 'laws.FnExactNewEngine'. -/
def fnExactNewEngineUptoCard : Claim7 := { stood := { row := fnExactNewEngineUptoRow, standIns := [], harness := (true, "be641ea668dc9c93377771a3a44c07c40c33fe03b617ed7d8e0c8fccd4aa02c4"), looks := true }, kinds := [], alts := [], laidByText := true, laidKinds := [.data], laidTests := true, laidLooks := .later }
def FnExactNewEngineUptoCardSaid : Prop := Claim7.holds Tryz.pinned (.plain (OpenSpec.upto fnExactNewEngineSpec)) fnExactNewEngineUptoCard

/-- THE SECOND FORM's CARD OF 'laws.FnExactStartInst'. -/
def fnExactStartInstUptoCard : Claim7 := { stood := { row := fnExactStartInstUptoRow, standIns := [], harness := (true, "be641ea668dc9c93377771a3a44c07c40c33fe03b617ed7d8e0c8fccd4aa02c4"), looks := true }, kinds := [], alts := [], laidByText := true, laidKinds := [.data], laidTests := true, laidLooks := .later }
def FnExactStartInstUptoCardSaid : Prop := Claim7.holds Tryz.pinned (.plain (OpenSpec.upto fnExactStartInstSpec)) fnExactStartInstUptoCard

/-- THE SECOND FORM's CARD OF 'laws.FnExactDoneInst'. -/
def fnExactDoneInstUptoCard : Claim7 := { stood := { row := fnExactDoneInstUptoRow, standIns := [], harness := (true, "be641ea668dc9c93377771a3a44c07c40c33fe03b617ed7d8e0c8fccd4aa02c4"), looks := true }, kinds := [], alts := [], laidByText := true, laidKinds := [.data], laidTests := true, laidLooks := .later }
def FnExactDoneInstUptoCardSaid : Prop := Claim7.holds Tryz.pinned (.plain (OpenSpec.upto fnExactDoneInstSpec)) fnExactDoneInstUptoCard

/-- THE SECOND FORM's CARD OF 'laws.FnExactMailInst'. -/
def fnExactMailInstUptoCard : Claim7 := { stood := { row := fnExactMailInstUptoRow, standIns := [], harness := (true, "be641ea668dc9c93377771a3a44c07c40c33fe03b617ed7d8e0c8fccd4aa02c4"), looks := true }, kinds := [], alts := [], laidByText := true, laidKinds := [.data], laidTests := true, laidLooks := .later }
def FnExactMailInstUptoCardSaid : Prop := Claim7.holds Tryz.pinned (.plain (OpenSpec.upto fnExactMailInstSpec)) fnExactMailInstUptoCard

/-- THE SECOND FORM's CARD OF 'laws.FnExactTickEngine'. -/
def fnExactTickEngineUptoCard : Claim7 := { stood := { row := fnExactTickEngineUptoRow, standIns := [], harness := (true, "be641ea668dc9c93377771a3a44c07c40c33fe03b617ed7d8e0c8fccd4aa02c4"), looks := true }, kinds := [], alts := [], laidByText := true, laidKinds := [.data], laidTests := true, laidLooks := .later }
def FnExactTickEngineUptoCardSaid : Prop := Claim7.holds Tryz.pinned (.plain (OpenSpec.upto fnExactTickEngineSpec)) fnExactTickEngineUptoCard

/-- THE SECOND FORM's CARD OF 'laws.FnExactDropInst'. -/
def fnExactDropInstUptoCard : Claim7 := { stood := { row := fnExactDropInstUptoRow, standIns := [], harness := (true, "be641ea668dc9c93377771a3a44c07c40c33fe03b617ed7d8e0c8fccd4aa02c4"), looks := true }, kinds := [], alts := [], laidByText := true, laidKinds := [.data], laidTests := true, laidLooks := .later }
def FnExactDropInstUptoCardSaid : Prop := Claim7.holds Tryz.pinned (.plain (OpenSpec.upto fnExactDropInstSpec)) fnExactDropInstUptoCard
end Rows
end Go.Proofs.YtpmlialjoonpeaaGreatDoor
