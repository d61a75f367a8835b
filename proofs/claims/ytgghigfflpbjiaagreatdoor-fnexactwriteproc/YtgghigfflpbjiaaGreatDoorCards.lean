/-
  DERIVED. GIVEN WITH THE SEED: THE CARDS: each row of YtgghigfflpbjiaaGreatDoorRows.lean that lists a variable, with what it lists TIED to the program's text (the seventh form; the later family's looks); each row that meets fmt, with fmt's text TOLD by the authors' own Lean function (tested against real Go, not proved from fmt's source: count such statements apart). THE CARD IS WHAT COUNTS. Prove the row's statement (the work); the ties are given (YtgghigfflpbjiaaGreatDoorTie.lean); close each card by the builder's one call (the guide's Derived/Test/ToyasCard.lean, 'card_holds'). Laid BY PROGRAM, IN A SANDBOX (cutbox-door.mjs). By AI agents, Wed Nov 11 2026. No macro, syntax, notation, axiom, sorry.
-/
import Derived.Test.YtgghigfflpbjiaaGreatDoorRows
import GoSem.ClaimSeven
namespace Go.Proofs.YtgghigfflpbjiaaGreatDoor
namespace Rows

/-- THE TIED CARD OF 'laws.FnExactTreeOf'. -/
def fnExactTreeOfCard : Claim7 := { stood := { row := fnExactTreeOfRow, standIns := [], harness := (true, "5a024931a99656ef6aab1341565172c0aa4d67e4562ebaa9a2eb221a9390d352"), looks := true }, kinds := [], alts := [], laidByText := true, laidKinds := [.data, .data, .data, .data, .data], laidTests := true, laidLooks := .later }
def FnExactTreeOfCardSaid : Prop := Claim7.holds Tryz.pinned (.plain (OpenSpec.ofChange fnExactTreeOfSpec)) fnExactTreeOfCard

/-- THE TIED CARD OF 'laws.FnExactWriteProc'. -/
def fnExactWriteProcCard : Claim7 := { stood := { row := fnExactWriteProcRow, standIns := [], harness := (true, "5a024931a99656ef6aab1341565172c0aa4d67e4562ebaa9a2eb221a9390d352"), looks := true }, kinds := [], alts := [], laidByText := true, laidKinds := [.data, .data, .data, .data, .data], laidTests := true, laidLooks := .later }
def FnExactWriteProcCardSaid : Prop := Claim7.holds Tryz.pinned (.plain (OpenSpec.ofChange fnExactWriteProcSpec)) fnExactWriteProcCard

/-- THE SECOND FORM's CARD OF 'laws.FnExactTreeOf'. -/
def fnExactTreeOfUptoCard : Claim7 := { stood := { row := fnExactTreeOfUptoRow, standIns := [], harness := (true, "5a024931a99656ef6aab1341565172c0aa4d67e4562ebaa9a2eb221a9390d352"), looks := true }, kinds := [], alts := [], laidByText := true, laidKinds := [.data, .data, .data, .data, .data], laidTests := true, laidLooks := .later }
def FnExactTreeOfUptoCardSaid : Prop := Claim7.holds Tryz.pinned (.plain (OpenSpec.upto fnExactTreeOfSpec)) fnExactTreeOfUptoCard

/-- THE SECOND FORM's CARD OF 'laws.FnExactWriteProc'. -/
def fnExactWriteProcUptoCard : Claim7 := { stood := { row := fnExactWriteProcUptoRow, standIns := [], harness := (true, "5a024931a99656ef6aab1341565172c0aa4d67e4562ebaa9a2eb221a9390d352"), looks := true }, kinds := [], alts := [], laidByText := true, laidKinds := [.data, .data, .data, .data, .data], laidTests := true, laidLooks := .later }
def FnExactWriteProcUptoCardSaid : Prop := Claim7.holds Tryz.pinned (.plain (OpenSpec.upto fnExactWriteProcSpec)) fnExactWriteProcUptoCard
end Rows
end Go.Proofs.YtgghigfflpbjiaaGreatDoor
