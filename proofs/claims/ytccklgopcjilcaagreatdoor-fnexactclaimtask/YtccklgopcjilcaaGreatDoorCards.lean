/-
  DERIVED. GIVEN WITH THE SEED: THE CARDS: each row of YtccklgopcjilcaaGreatDoorRows.lean that lists a variable, with what it lists TIED to the program's text (the seventh form; the later family's looks); each row that meets fmt, with fmt's text TOLD by the authors' own Lean function (tested against real Go, not proved from fmt's source: count such statements apart). THE CARD IS WHAT COUNTS. Prove the row's statement (the work); the ties are given (YtccklgopcjilcaaGreatDoorTie.lean); close each card by the builder's one call (the guide's Derived/Test/ToyasCard.lean, 'card_holds'). Laid BY PROGRAM, IN A SANDBOX (cutbox-door.mjs). By AI agents, Wed Nov 11 2026. No macro, syntax, notation, axiom, sorry.
-/
import Derived.Test.YtccklgopcjilcaaGreatDoorRows
import GoSem.ClaimSeven
namespace Go.Proofs.YtccklgopcjilcaaGreatDoor
namespace Rows

/-- THE TIED CARD OF 'laws.FnExactNewWorld'. -/
def fnExactNewWorldCard : Claim7 := { stood := { row := fnExactNewWorldRow, standIns := [], harness := (true, "b12b0fcffdb9b2e779818ea2561758dae7b40867e421a0b8b89d6fe39d75433e"), looks := true }, kinds := [], alts := [], laidByText := true, laidKinds := [.data], laidTests := true, laidLooks := .later }
def FnExactNewWorldCardSaid : Prop := Claim7.holds Tryz.pinned (.plain (OpenSpec.ofChange fnExactNewWorldSpec)) fnExactNewWorldCard

/-- THE TIED CARD OF 'laws.FnExactWorldFault'. -/
def fnExactWorldFaultCard : Claim7 := { stood := { row := fnExactWorldFaultRow, standIns := [], harness := (true, "b12b0fcffdb9b2e779818ea2561758dae7b40867e421a0b8b89d6fe39d75433e"), looks := true }, kinds := [], alts := [], laidByText := true, laidKinds := [.data], laidTests := true, laidLooks := .later }
def FnExactWorldFaultCardSaid : Prop := Claim7.holds Tryz.pinned (.plain (OpenSpec.ofChange fnExactWorldFaultSpec)) fnExactWorldFaultCard

/-- THE TIED CARD OF 'laws.FnExactSyncWorld'. -/
def fnExactSyncWorldCard : Claim7 := { stood := { row := fnExactSyncWorldRow, standIns := [], harness := (true, "b12b0fcffdb9b2e779818ea2561758dae7b40867e421a0b8b89d6fe39d75433e"), looks := true }, kinds := [], alts := [], laidByText := true, laidKinds := [.data], laidTests := true, laidLooks := .later }
def FnExactSyncWorldCardSaid : Prop := Claim7.holds Tryz.pinned (.plain (OpenSpec.ofChange fnExactSyncWorldSpec)) fnExactSyncWorldCard

/-- THE TIED CARD OF 'laws.FnExactDropInst'. -/
def fnExactDropInstCard : Claim7 := { stood := { row := fnExactDropInstRow, standIns := [], harness := (true, "b12b0fcffdb9b2e779818ea2561758dae7b40867e421a0b8b89d6fe39d75433e"), looks := true }, kinds := [], alts := [], laidByText := true, laidKinds := [.data], laidTests := true, laidLooks := .later }
def FnExactDropInstCardSaid : Prop := Claim7.holds Tryz.pinned (.plain (OpenSpec.ofChange fnExactDropInstSpec)) fnExactDropInstCard

/-- THE TIED CARD OF 'laws.FnExactClaimTask'. -/
def fnExactClaimTaskCard : Claim7 := { stood := { row := fnExactClaimTaskRow, standIns := [], harness := (true, "b12b0fcffdb9b2e779818ea2561758dae7b40867e421a0b8b89d6fe39d75433e"), looks := true }, kinds := [], alts := [], laidByText := true, laidKinds := [.data], laidTests := true, laidLooks := .later }
def FnExactClaimTaskCardSaid : Prop := Claim7.holds Tryz.pinned (.plain (OpenSpec.ofChange fnExactClaimTaskSpec)) fnExactClaimTaskCard

/-- THE TIED CARD OF 'laws.FnExactFreeTask'. -/
def fnExactFreeTaskCard : Claim7 := { stood := { row := fnExactFreeTaskRow, standIns := [], harness := (true, "b12b0fcffdb9b2e779818ea2561758dae7b40867e421a0b8b89d6fe39d75433e"), looks := true }, kinds := [], alts := [], laidByText := true, laidKinds := [.data], laidTests := true, laidLooks := .later }
def FnExactFreeTaskCardSaid : Prop := Claim7.holds Tryz.pinned (.plain (OpenSpec.ofChange fnExactFreeTaskSpec)) fnExactFreeTaskCard

/-- THE SECOND FORM's CARD OF 'laws.FnExactNewWorld'. -/
def fnExactNewWorldUptoCard : Claim7 := { stood := { row := fnExactNewWorldUptoRow, standIns := [], harness := (true, "b12b0fcffdb9b2e779818ea2561758dae7b40867e421a0b8b89d6fe39d75433e"), looks := true }, kinds := [], alts := [], laidByText := true, laidKinds := [.data], laidTests := true, laidLooks := .later }
def FnExactNewWorldUptoCardSaid : Prop := Claim7.holds Tryz.pinned (.plain (OpenSpec.upto fnExactNewWorldSpec)) fnExactNewWorldUptoCard

/-- THE SECOND FORM's CARD OF 'laws.FnExactWorldFault'. -/
def fnExactWorldFaultUptoCard : Claim7 := { stood := { row := fnExactWorldFaultUptoRow, standIns := [], harness := (true, "b12b0fcffdb9b2e779818ea2561758dae7b40867e421a0b8b89d6fe39d75433e"), looks := true }, kinds := [], alts := [], laidByText := true, laidKinds := [.data], laidTests := true, laidLooks := .later }
def FnExactWorldFaultUptoCardSaid : Prop := Claim7.holds Tryz.pinned (.plain (OpenSpec.upto fnExactWorldFaultSpec)) fnExactWorldFaultUptoCard

/-- THE SECOND FORM's CARD OF 'laws.FnExactSyncWorld'. -/
def fnExactSyncWorldUptoCard : Claim7 := { stood := { row := fnExactSyncWorldUptoRow, standIns := [], harness := (true, "b12b0fcffdb9b2e779818ea2561758dae7b40867e421a0b8b89d6fe39d75433e"), looks := true }, kinds := [], alts := [], laidByText := true, laidKinds := [.data], laidTests := true, laidLooks := .later }
def FnExactSyncWorldUptoCardSaid : Prop := Claim7.holds Tryz.pinned (.plain (OpenSpec.upto fnExactSyncWorldSpec)) fnExactSyncWorldUptoCard

/-- THE SECOND FORM's CARD OF 'laws.FnExactDropInst'. -/
def fnExactDropInstUptoCard : Claim7 := { stood := { row := fnExactDropInstUptoRow, standIns := [], harness := (true, "b12b0fcffdb9b2e779818ea2561758dae7b40867e421a0b8b89d6fe39d75433e"), looks := true }, kinds := [], alts := [], laidByText := true, laidKinds := [.data], laidTests := true, laidLooks := .later }
def FnExactDropInstUptoCardSaid : Prop := Claim7.holds Tryz.pinned (.plain (OpenSpec.upto fnExactDropInstSpec)) fnExactDropInstUptoCard

/-- THE SECOND FORM's CARD OF 'laws.FnExactClaimTask'. -/
def fnExactClaimTaskUptoCard : Claim7 := { stood := { row := fnExactClaimTaskUptoRow, standIns := [], harness := (true, "b12b0fcffdb9b2e779818ea2561758dae7b40867e421a0b8b89d6fe39d75433e"), looks := true }, kinds := [], alts := [], laidByText := true, laidKinds := [.data], laidTests := true, laidLooks := .later }
def FnExactClaimTaskUptoCardSaid : Prop := Claim7.holds Tryz.pinned (.plain (OpenSpec.upto fnExactClaimTaskSpec)) fnExactClaimTaskUptoCard

/-- THE SECOND FORM's CARD OF 'laws.FnExactFreeTask'. -/
def fnExactFreeTaskUptoCard : Claim7 := { stood := { row := fnExactFreeTaskUptoRow, standIns := [], harness := (true, "b12b0fcffdb9b2e779818ea2561758dae7b40867e421a0b8b89d6fe39d75433e"), looks := true }, kinds := [], alts := [], laidByText := true, laidKinds := [.data], laidTests := true, laidLooks := .later }
def FnExactFreeTaskUptoCardSaid : Prop := Claim7.holds Tryz.pinned (.plain (OpenSpec.upto fnExactFreeTaskSpec)) fnExactFreeTaskUptoCard
end Rows
end Go.Proofs.YtccklgopcjilcaaGreatDoor
