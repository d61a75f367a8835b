/-
  DERIVED. GIVEN WITH THE SEED: THE CARDS: each row of YtbnpejijfnigaagDoorRows.lean that lists a variable, with what it lists TIED to the program's text (the seventh form; the later family's looks); each row that meets fmt, with fmt's text TOLD by the authors' own Lean function (tested against real Go, not proved from fmt's source: count such statements apart). THE CARD IS WHAT COUNTS. Prove the row's statement (the work); the ties are given (YtbnpejijfnigaagDoorTie.lean); close each card by the builder's one call (the guide's Derived/Test/ToyasCard.lean, 'card_holds'). Laid BY PROGRAM, IN A SANDBOX (cutbox-door.mjs). By AI agents, Wed Nov 11 2026. No macro, syntax, notation, axiom, sorry.
-/
import Derived.Test.YtbnpejijfnigaagDoorRows
import GoSem.ClaimSeven
namespace Go.Proofs.YtbnpejijfnigaagDoor
namespace Rows

/-- THE TIED CARD OF 'laws.FnExactEscapeText'. -/
def fnExactEscapeTextCard : Claim7 := { stood := { row := fnExactEscapeTextRow, standIns := [], harness := (true, "5cb7ea789dc847a36b087b7678d05fed04f852727814fc758d3b9493aa3d7694"), looks := false }, kinds := [], alts := [], laidByText := true, laidKinds := [.data], laidTests := true, laidLooks := .later }
def FnExactEscapeTextCardSaid : Prop := Claim7.holds Tryd.pinned (.plain (OpenSpec.ofChange fnExactEscapeTextSpec)) fnExactEscapeTextCard

/-- THE TIED CARD OF 'laws.FnExactUnescapeText'. -/
def fnExactUnescapeTextCard : Claim7 := { stood := { row := fnExactUnescapeTextRow, standIns := [], harness := (true, "5cb7ea789dc847a36b087b7678d05fed04f852727814fc758d3b9493aa3d7694"), looks := false }, kinds := [], alts := [], laidByText := true, laidKinds := [.data], laidTests := true, laidLooks := .later }
def FnExactUnescapeTextCardSaid : Prop := Claim7.holds Tryd.pinned (.plain (OpenSpec.ofChange fnExactUnescapeTextSpec)) fnExactUnescapeTextCard

/-- THE SECOND FORM's CARD OF 'laws.FnExactEscapeText'. -/
def fnExactEscapeTextUptoCard : Claim7 := { stood := { row := fnExactEscapeTextUptoRow, standIns := [], harness := (true, "5cb7ea789dc847a36b087b7678d05fed04f852727814fc758d3b9493aa3d7694"), looks := false }, kinds := [], alts := [], laidByText := true, laidKinds := [.data], laidTests := true, laidLooks := .later }
def FnExactEscapeTextUptoCardSaid : Prop := Claim7.holds Tryd.pinned (.plain (OpenSpec.upto fnExactEscapeTextSpec)) fnExactEscapeTextUptoCard

/-- THE SECOND FORM's CARD OF 'laws.FnExactUnescapeText'. -/
def fnExactUnescapeTextUptoCard : Claim7 := { stood := { row := fnExactUnescapeTextUptoRow, standIns := [], harness := (true, "5cb7ea789dc847a36b087b7678d05fed04f852727814fc758d3b9493aa3d7694"), looks := false }, kinds := [], alts := [], laidByText := true, laidKinds := [.data], laidTests := true, laidLooks := .later }
def FnExactUnescapeTextUptoCardSaid : Prop := Claim7.holds Tryd.pinned (.plain (OpenSpec.upto fnExactUnescapeTextSpec)) fnExactUnescapeTextUptoCard
end Rows
end Go.Proofs.YtbnpejijfnigaagDoor
