/-
  DERIVED. GIVEN WITH THE SEED: THE CARDS: each row of YtlnmegfcecpfmagDoorRows.lean that lists a variable, with what it lists TIED to the program's text (the seventh form; the later family's looks); each row that meets fmt, with fmt's text TOLD by the authors' own Lean function (tested against real Go, not proved from fmt's source: count such statements apart). THE CARD IS WHAT COUNTS. Prove the row's statement (the work); the ties are given (YtlnmegfcecpfmagDoorTie.lean); close each card by the builder's one call (the guide's Derived/Test/ToyasCard.lean, 'card_holds'). Laid BY PROGRAM, IN A SANDBOX (cutbox-door.mjs). By AI agents, Wed Nov 11 2026. No macro, syntax, notation, axiom, sorry.
-/
import Derived.Test.YtlnmegfcecpfmagDoorRows
import GoSem.ClaimSeven
namespace Go.Proofs.YtlnmegfcecpfmagDoor
namespace Rows

/-- THE TIED CARD OF 'laws.FnExactEscapeText'. -/
def fnExactEscapeTextCard : Claim7 := { stood := { row := fnExactEscapeTextRow, standIns := [], harness := (true, "f6738144e0c56c962017cba822a69cb09f606b61fdfca7deb78e1eca541a9f84"), looks := false }, kinds := [], alts := [], laidByText := true, laidKinds := [.data], laidTests := true, laidLooks := .later }
def FnExactEscapeTextCardSaid : Prop := Claim7.holds Tryd.pinned (.plain (OpenSpec.ofChange fnExactEscapeTextSpec)) fnExactEscapeTextCard

/-- THE TIED CARD OF 'laws.FnExactUnescapeText'. -/
def fnExactUnescapeTextCard : Claim7 := { stood := { row := fnExactUnescapeTextRow, standIns := [], harness := (true, "f6738144e0c56c962017cba822a69cb09f606b61fdfca7deb78e1eca541a9f84"), looks := false }, kinds := [], alts := [], laidByText := true, laidKinds := [.data], laidTests := true, laidLooks := .later }
def FnExactUnescapeTextCardSaid : Prop := Claim7.holds Tryd.pinned (.plain (OpenSpec.ofChange fnExactUnescapeTextSpec)) fnExactUnescapeTextCard

/-- THE TIED CARD OF 'laws.FnExactTreeFault'. -/
def fnExactTreeFaultCard : Claim7 := { stood := { row := fnExactTreeFaultRow, standIns := [], harness := (true, "f6738144e0c56c962017cba822a69cb09f606b61fdfca7deb78e1eca541a9f84"), looks := false }, kinds := [], alts := [], laidByText := true, laidKinds := [.data], laidTests := true, laidLooks := .later }
def FnExactTreeFaultCardSaid : Prop := Claim7.holds Tryd.pinned (.plain (OpenSpec.ofChange fnExactTreeFaultSpec)) fnExactTreeFaultCard

/-- THE TIED CARD OF 'laws.FnExactParseTag'. -/
def fnExactParseTagCard : Claim7 := { stood := { row := fnExactParseTagRow, standIns := [], harness := (true, "f6738144e0c56c962017cba822a69cb09f606b61fdfca7deb78e1eca541a9f84"), looks := false }, kinds := [], alts := [], laidByText := true, laidKinds := [.data, .data, .pinned], laidTests := true, laidLooks := .later }
def FnExactParseTagCardSaid : Prop := Claim7.holds Tryd.pinned (.plain (OpenSpec.ofChange fnExactParseTagSpec)) fnExactParseTagCard

/-- THE SECOND FORM's CARD OF 'laws.FnExactEscapeText'. -/
def fnExactEscapeTextUptoCard : Claim7 := { stood := { row := fnExactEscapeTextUptoRow, standIns := [], harness := (true, "f6738144e0c56c962017cba822a69cb09f606b61fdfca7deb78e1eca541a9f84"), looks := false }, kinds := [], alts := [], laidByText := true, laidKinds := [.data], laidTests := true, laidLooks := .later }
def FnExactEscapeTextUptoCardSaid : Prop := Claim7.holds Tryd.pinned (.plain (OpenSpec.upto fnExactEscapeTextSpec)) fnExactEscapeTextUptoCard

/-- THE SECOND FORM's CARD OF 'laws.FnExactUnescapeText'. -/
def fnExactUnescapeTextUptoCard : Claim7 := { stood := { row := fnExactUnescapeTextUptoRow, standIns := [], harness := (true, "f6738144e0c56c962017cba822a69cb09f606b61fdfca7deb78e1eca541a9f84"), looks := false }, kinds := [], alts := [], laidByText := true, laidKinds := [.data], laidTests := true, laidLooks := .later }
def FnExactUnescapeTextUptoCardSaid : Prop := Claim7.holds Tryd.pinned (.plain (OpenSpec.upto fnExactUnescapeTextSpec)) fnExactUnescapeTextUptoCard

/-- THE SECOND FORM's CARD OF 'laws.FnExactTreeFault'. -/
def fnExactTreeFaultUptoCard : Claim7 := { stood := { row := fnExactTreeFaultUptoRow, standIns := [], harness := (true, "f6738144e0c56c962017cba822a69cb09f606b61fdfca7deb78e1eca541a9f84"), looks := false }, kinds := [], alts := [], laidByText := true, laidKinds := [.data], laidTests := true, laidLooks := .later }
def FnExactTreeFaultUptoCardSaid : Prop := Claim7.holds Tryd.pinned (.plain (OpenSpec.upto fnExactTreeFaultSpec)) fnExactTreeFaultUptoCard

/-- THE SECOND FORM's CARD OF 'laws.FnExactParseTag'. -/
def fnExactParseTagUptoCard : Claim7 := { stood := { row := fnExactParseTagUptoRow, standIns := [], harness := (true, "f6738144e0c56c962017cba822a69cb09f606b61fdfca7deb78e1eca541a9f84"), looks := false }, kinds := [], alts := [], laidByText := true, laidKinds := [.data, .data, .pinned], laidTests := true, laidLooks := .later }
def FnExactParseTagUptoCardSaid : Prop := Claim7.holds Tryd.pinned (.plain (OpenSpec.upto fnExactParseTagSpec)) fnExactParseTagUptoCard
end Rows
end Go.Proofs.YtlnmegfcecpfmagDoor
