/-
  DERIVED. GIVEN WITH THE SEED: THE CARDS: each row of YtnbmpofmieagfaaGreatDoorRows.lean that lists a variable, with what it lists TIED to the program's text (the seventh form; the later family's looks); each row that meets fmt, with fmt's text TOLD by the authors' own Lean function (tested against real Go, not proved from fmt's source: count such statements apart). THE CARD IS WHAT COUNTS. Prove the row's statement (the work); the ties are given (YtnbmpofmieagfaaGreatDoorTie.lean); close each card by the builder's one call (the guide's Derived/Test/ToyasCard.lean, 'card_holds'). Laid BY PROGRAM, IN A SANDBOX (cutbox-door.mjs). By AI agents, Wed Nov 11 2026. No macro, syntax, notation, axiom, sorry.
-/
import Derived.Test.YtnbmpofmieagfaaGreatDoorRows
import GoSem.ClaimSeven
namespace Go.Proofs.YtnbmpofmieagfaaGreatDoor
namespace Rows

/-- THE TIED CARD OF 'laws.FnProcs'. -/
def fnProcsCard : Claim7 := { stood := { row := fnProcsRow, standIns := [], harness := (true, "0fb075d1beea86977dc1f95405141b2d19d31e879a02ee6aa49fd8b188168ea8"), looks := true }, kinds := [], alts := [], laidByText := true, laidKinds := [.data, .data, .data, .data], laidTests := true, laidLooks := .later }
def FnProcsCardSaid : Prop := Claim7.holds Tryz.pinned (.plain (OpenSpec.ofChange fnProcsSpec)) fnProcsCard

/-- THE SECOND FORM's CARD OF 'laws.FnProcs'. -/
def fnProcsUptoCard : Claim7 := { stood := { row := fnProcsUptoRow, standIns := [], harness := (true, "0fb075d1beea86977dc1f95405141b2d19d31e879a02ee6aa49fd8b188168ea8"), looks := true }, kinds := [], alts := [], laidByText := true, laidKinds := [.data, .data, .data, .data], laidTests := true, laidLooks := .later }
def FnProcsUptoCardSaid : Prop := Claim7.holds Tryz.pinned (.plain (OpenSpec.upto fnProcsSpec)) fnProcsUptoCard
end Rows
end Go.Proofs.YtnbmpofmieagfaaGreatDoor
