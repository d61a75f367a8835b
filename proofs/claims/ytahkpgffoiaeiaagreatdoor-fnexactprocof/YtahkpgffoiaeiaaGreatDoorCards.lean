/-
  DERIVED. GIVEN WITH THE SEED: THE CARDS: each row of YtahkpgffoiaeiaaGreatDoorRows.lean that lists a variable, with what it lists TIED to the program's text (the seventh form; the later family's looks); each row that meets fmt, with fmt's text TOLD by the authors' own Lean function (tested against real Go, not proved from fmt's source: count such statements apart). THE CARD IS WHAT COUNTS. Prove the row's statement (the work); the ties are given (YtahkpgffoiaeiaaGreatDoorTie.lean); close each card by the builder's one call (the guide's Derived/Test/ToyasCard.lean, 'card_holds'). Laid BY PROGRAM, IN A SANDBOX (cutbox-door.mjs). By AI agents, Wed Nov 11 2026. No macro, syntax, notation, axiom, sorry.
-/
import Derived.Test.YtahkpgffoiaeiaaGreatDoorRows
import GoSem.ClaimSeven
namespace Go.Proofs.YtahkpgffoiaeiaaGreatDoor
namespace Rows

/-- THE TIED CARD OF 'laws.FnExactProcOf'. -/
def fnExactProcOfCard : Claim7 := { stood := { row := fnExactProcOfRow, standIns := [], harness := (true, "4015ec96a3996fffa918bd2e196f1e50c502a116cb27c730526308556574697b"), looks := true }, kinds := [], alts := [], laidByText := true, laidKinds := [.data, .handle, .data, .data, .pinned], laidTests := true, laidLooks := .later }
def FnExactProcOfCardSaid : Prop := Claim7.holds Tryz.pinned (.plain (OpenSpec.ofChange fnExactProcOfSpec)) fnExactProcOfCard

/-- THE SECOND FORM's CARD OF 'laws.FnExactProcOf'. -/
def fnExactProcOfUptoCard : Claim7 := { stood := { row := fnExactProcOfUptoRow, standIns := [], harness := (true, "4015ec96a3996fffa918bd2e196f1e50c502a116cb27c730526308556574697b"), looks := true }, kinds := [], alts := [], laidByText := true, laidKinds := [.data, .handle, .data, .data, .pinned], laidTests := true, laidLooks := .later }
def FnExactProcOfUptoCardSaid : Prop := Claim7.holds Tryz.pinned (.plain (OpenSpec.upto fnExactProcOfSpec)) fnExactProcOfUptoCard
end Rows
end Go.Proofs.YtahkpgffoiaeiaaGreatDoor
