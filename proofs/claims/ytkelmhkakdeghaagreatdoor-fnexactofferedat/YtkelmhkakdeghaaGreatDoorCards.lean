/-
  DERIVED. GIVEN WITH THE SEED: THE CARDS: each row of YtkelmhkakdeghaaGreatDoorRows.lean that lists a variable, with what it lists TIED to the program's text (the seventh form; the later family's looks); each row that meets fmt, with fmt's text TOLD by the authors' own Lean function (tested against real Go, not proved from fmt's source: count such statements apart). THE CARD IS WHAT COUNTS. Prove the row's statement (the work); the ties are given (YtkelmhkakdeghaaGreatDoorTie.lean); close each card by the builder's one call (the guide's Derived/Test/ToyasCard.lean, 'card_holds'). Laid BY PROGRAM, IN A SANDBOX (cutbox-door.mjs). By AI agents, Wed Nov 11 2026. No macro, syntax, notation, axiom, sorry.
-/
import Derived.Test.YtkelmhkakdeghaaGreatDoorRows
import GoSem.ClaimSeven
namespace Go.Proofs.YtkelmhkakdeghaaGreatDoor
namespace Rows

/-- THE TIED CARD OF 'laws.FnExactNewEngine'. -/
def fnExactNewEngineCard : Claim7 := { stood := { row := fnExactNewEngineRow, standIns := [], harness := (true, "504c07e2440067f8694d355161680a16c79c09eabc5deecf3c5f2f12aaf1dd36"), looks := true }, kinds := [], alts := [], laidByText := true, laidKinds := [.data], laidTests := true, laidLooks := .later }
def FnExactNewEngineCardSaid : Prop := Claim7.holds Tryz.pinned (.plain (OpenSpec.ofChange fnExactNewEngineSpec)) fnExactNewEngineCard

/-- THE TIED CARD OF 'laws.FnExactDropInst'. -/
def fnExactDropInstCard : Claim7 := { stood := { row := fnExactDropInstRow, standIns := [], harness := (true, "504c07e2440067f8694d355161680a16c79c09eabc5deecf3c5f2f12aaf1dd36"), looks := true }, kinds := [], alts := [], laidByText := true, laidKinds := [.data], laidTests := true, laidLooks := .later }
def FnExactDropInstCardSaid : Prop := Claim7.holds Tryz.pinned (.plain (OpenSpec.ofChange fnExactDropInstSpec)) fnExactDropInstCard

/-- THE TIED CARD OF 'laws.FnExactDeskFault'. -/
def fnExactDeskFaultCard : Claim7 := { stood := { row := fnExactDeskFaultRow, standIns := [], harness := (true, "504c07e2440067f8694d355161680a16c79c09eabc5deecf3c5f2f12aaf1dd36"), looks := true }, kinds := [], alts := [], laidByText := true, laidKinds := [.data], laidTests := true, laidLooks := .later }
def FnExactDeskFaultCardSaid : Prop := Claim7.holds Tryz.pinned (.plain (OpenSpec.ofChange fnExactDeskFaultSpec)) fnExactDeskFaultCard

/-- THE TIED CARD OF 'laws.FnExactOfferedAt'. -/
def fnExactOfferedAtCard : Claim7 := { stood := { row := fnExactOfferedAtRow, standIns := [], harness := (true, "504c07e2440067f8694d355161680a16c79c09eabc5deecf3c5f2f12aaf1dd36"), looks := true }, kinds := [], alts := [], laidByText := true, laidKinds := [.data], laidTests := true, laidLooks := .later }
def FnExactOfferedAtCardSaid : Prop := Claim7.holds Tryz.pinned (.plain (OpenSpec.ofChange fnExactOfferedAtSpec)) fnExactOfferedAtCard

/-- THE TIED CARD OF 'laws.FnExactClaimsOf'. -/
def fnExactClaimsOfCard : Claim7 := { stood := { row := fnExactClaimsOfRow, standIns := [], harness := (true, "504c07e2440067f8694d355161680a16c79c09eabc5deecf3c5f2f12aaf1dd36"), looks := true }, kinds := [], alts := [], laidByText := true, laidKinds := [.data], laidTests := true, laidLooks := .later }
def FnExactClaimsOfCardSaid : Prop := Claim7.holds Tryz.pinned (.plain (OpenSpec.ofChange fnExactClaimsOfSpec)) fnExactClaimsOfCard

/-- THE TIED CARD OF 'laws.FnExactClaimTask'. -/
def fnExactClaimTaskCard : Claim7 := { stood := { row := fnExactClaimTaskRow, standIns := [], harness := (true, "504c07e2440067f8694d355161680a16c79c09eabc5deecf3c5f2f12aaf1dd36"), looks := true }, kinds := [], alts := [], laidByText := true, laidKinds := [.data], laidTests := true, laidLooks := .later }
def FnExactClaimTaskCardSaid : Prop := Claim7.holds Tryz.pinned (.plain (OpenSpec.ofChange fnExactClaimTaskSpec)) fnExactClaimTaskCard

/-- THE TIED CARD OF 'laws.FnExactFreeTask'. -/
def fnExactFreeTaskCard : Claim7 := { stood := { row := fnExactFreeTaskRow, standIns := [], harness := (true, "504c07e2440067f8694d355161680a16c79c09eabc5deecf3c5f2f12aaf1dd36"), looks := true }, kinds := [], alts := [], laidByText := true, laidKinds := [.data], laidTests := true, laidLooks := .later }
def FnExactFreeTaskCardSaid : Prop := Claim7.holds Tryz.pinned (.plain (OpenSpec.ofChange fnExactFreeTaskSpec)) fnExactFreeTaskCard

/-- THE SECOND FORM's CARD OF 'laws.FnExactNewEngine'. -/
def fnExactNewEngineUptoCard : Claim7 := { stood := { row := fnExactNewEngineUptoRow, standIns := [], harness := (true, "504c07e2440067f8694d355161680a16c79c09eabc5deecf3c5f2f12aaf1dd36"), looks := true }, kinds := [], alts := [], laidByText := true, laidKinds := [.data], laidTests := true, laidLooks := .later }
def FnExactNewEngineUptoCardSaid : Prop := Claim7.holds Tryz.pinned (.plain (OpenSpec.upto fnExactNewEngineSpec)) fnExactNewEngineUptoCard

/-- THE SECOND FORM's CARD OF 'laws.FnExactDropInst'. -/
def fnExactDropInstUptoCard : Claim7 := { stood := { row := fnExactDropInstUptoRow, standIns := [], harness := (true, "504c07e2440067f8694d355161680a16c79c09eabc5deecf3c5f2f12aaf1dd36"), looks := true }, kinds := [], alts := [], laidByText := true, laidKinds := [.data], laidTests := true, laidLooks := .later }
def FnExactDropInstUptoCardSaid : Prop := Claim7.holds Tryz.pinned (.plain (OpenSpec.upto fnExactDropInstSpec)) fnExactDropInstUptoCard

/-- THE SECOND FORM's CARD OF 'laws.FnExactDeskFault'. -/
def fnExactDeskFaultUptoCard : Claim7 := { stood := { row := fnExactDeskFaultUptoRow, standIns := [], harness := (true, "504c07e2440067f8694d355161680a16c79c09eabc5deecf3c5f2f12aaf1dd36"), looks := true }, kinds := [], alts := [], laidByText := true, laidKinds := [.data], laidTests := true, laidLooks := .later }
def FnExactDeskFaultUptoCardSaid : Prop := Claim7.holds Tryz.pinned (.plain (OpenSpec.upto fnExactDeskFaultSpec)) fnExactDeskFaultUptoCard

/-- THE SECOND FORM's CARD OF 'laws.FnExactOfferedAt'. -/
def fnExactOfferedAtUptoCard : Claim7 := { stood := { row := fnExactOfferedAtUptoRow, standIns := [], harness := (true, "504c07e2440067f8694d355161680a16c79c09eabc5deecf3c5f2f12aaf1dd36"), looks := true }, kinds := [], alts := [], laidByText := true, laidKinds := [.data], laidTests := true, laidLooks := .later }
def FnExactOfferedAtUptoCardSaid : Prop := Claim7.holds Tryz.pinned (.plain (OpenSpec.upto fnExactOfferedAtSpec)) fnExactOfferedAtUptoCard

/-- THE SECOND FORM's CARD OF 'laws.FnExactClaimsOf'. -/
def fnExactClaimsOfUptoCard : Claim7 := { stood := { row := fnExactClaimsOfUptoRow, standIns := [], harness := (true, "504c07e2440067f8694d355161680a16c79c09eabc5deecf3c5f2f12aaf1dd36"), looks := true }, kinds := [], alts := [], laidByText := true, laidKinds := [.data], laidTests := true, laidLooks := .later }
def FnExactClaimsOfUptoCardSaid : Prop := Claim7.holds Tryz.pinned (.plain (OpenSpec.upto fnExactClaimsOfSpec)) fnExactClaimsOfUptoCard

/-- THE SECOND FORM's CARD OF 'laws.FnExactClaimTask'. -/
def fnExactClaimTaskUptoCard : Claim7 := { stood := { row := fnExactClaimTaskUptoRow, standIns := [], harness := (true, "504c07e2440067f8694d355161680a16c79c09eabc5deecf3c5f2f12aaf1dd36"), looks := true }, kinds := [], alts := [], laidByText := true, laidKinds := [.data], laidTests := true, laidLooks := .later }
def FnExactClaimTaskUptoCardSaid : Prop := Claim7.holds Tryz.pinned (.plain (OpenSpec.upto fnExactClaimTaskSpec)) fnExactClaimTaskUptoCard

/-- THE SECOND FORM's CARD OF 'laws.FnExactFreeTask'. -/
def fnExactFreeTaskUptoCard : Claim7 := { stood := { row := fnExactFreeTaskUptoRow, standIns := [], harness := (true, "504c07e2440067f8694d355161680a16c79c09eabc5deecf3c5f2f12aaf1dd36"), looks := true }, kinds := [], alts := [], laidByText := true, laidKinds := [.data], laidTests := true, laidLooks := .later }
def FnExactFreeTaskUptoCardSaid : Prop := Claim7.holds Tryz.pinned (.plain (OpenSpec.upto fnExactFreeTaskSpec)) fnExactFreeTaskUptoCard
end Rows
end Go.Proofs.YtkelmhkakdeghaaGreatDoor
