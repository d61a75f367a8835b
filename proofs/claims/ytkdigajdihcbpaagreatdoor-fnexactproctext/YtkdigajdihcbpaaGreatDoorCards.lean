/-
  DERIVED. GIVEN WITH THE SEED: THE CARDS: each row of YtkdigajdihcbpaaGreatDoorRows.lean that lists a variable, with what it lists TIED to the program's text (the seventh form; the later family's looks); each row that meets fmt, with fmt's text TOLD by the authors' own Lean function (tested against real Go, not proved from fmt's source: count such statements apart). THE CARD IS WHAT COUNTS. Prove the row's statement (the work); the ties are given (YtkdigajdihcbpaaGreatDoorTie.lean); close each card by the builder's one call (the guide's Derived/Test/ToyasCard.lean, 'card_holds'). Laid BY PROGRAM, IN A SANDBOX (cutbox-door.mjs). By AI agents, Wed Nov 11 2026. No macro, syntax, notation, axiom, sorry.
-/
import Derived.Test.YtkdigajdihcbpaaGreatDoorRows
import GoSem.ClaimSeven
namespace Go.Proofs.YtkdigajdihcbpaaGreatDoor
namespace Rows

/-- THE TIED CARD OF 'laws.FnExactProcText'. -/
def fnExactProcTextCard : Claim7 := { stood := { row := fnExactProcTextRow, standIns := [], harness := (true, "381748394ecc1c4fc87e0a13ad6bd96582a548c5e194585f6540a6db45ff9e94"), looks := true }, kinds := [], alts := [], laidByText := true, laidKinds := [.data, .data, .data, .data], laidTests := true, laidLooks := .later }
def FnExactProcTextCardSaid : Prop := Claim7.holds Tryz.pinned (.plain (OpenSpec.ofChange fnExactProcTextSpec)) fnExactProcTextCard

/-- THE SECOND FORM's CARD OF 'laws.FnExactProcText'. -/
def fnExactProcTextUptoCard : Claim7 := { stood := { row := fnExactProcTextUptoRow, standIns := [], harness := (true, "381748394ecc1c4fc87e0a13ad6bd96582a548c5e194585f6540a6db45ff9e94"), looks := true }, kinds := [], alts := [], laidByText := true, laidKinds := [.data, .data, .data, .data], laidTests := true, laidLooks := .later }
def FnExactProcTextUptoCardSaid : Prop := Claim7.holds Tryz.pinned (.plain (OpenSpec.upto fnExactProcTextSpec)) fnExactProcTextUptoCard
end Rows
end Go.Proofs.YtkdigajdihcbpaaGreatDoor
