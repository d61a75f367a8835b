/-
  DERIVED. GIVEN WITH THE SEED: THE CARDS: each row of YtmeoaiklbpkboaaDoorRows.lean that lists a variable, with what it lists TIED to the program's text (the seventh form; the later family's looks); each row that meets fmt, with fmt's text TOLD by the authors' own Lean function (tested against real Go, not proved from fmt's source: count such statements apart). THE CARD IS WHAT COUNTS. Prove the row's statement (the work); the ties are given (YtmeoaiklbpkboaaDoorTie.lean); close each card by the builder's one call (the guide's Derived/Test/ToyasCard.lean, 'card_holds'). Laid BY PROGRAM, IN A SANDBOX (cutbox-door.mjs). By AI agents, Wed Nov 11 2026. No macro, syntax, notation, axiom, sorry.
-/
import Derived.Test.YtmeoaiklbpkboaaDoorRows
import GoSem.ClaimSeven
namespace Go.Proofs.YtmeoaiklbpkboaaDoor
namespace Rows

/-- THE TIED CARD OF 'laws.FnExactProcFault'. -/
def fnExactProcFaultCard : Claim7 := { stood := { row := fnExactProcFaultRow, standIns := [], harness := (true, "7e018a238d2a7dfa529d154a8d86bdba60ec360a9e1c7b8963514ef93c7be3eb"), looks := true }, kinds := [], alts := [], laidByText := true, laidKinds := [.data], laidTests := true, laidLooks := .later }
def FnExactProcFaultCardSaid : Prop := Claim7.holds Tryd.pinned (.plain (OpenSpec.ofChange fnExactProcFaultSpec)) fnExactProcFaultCard

/-- THE TIED CARD OF 'laws.FnExactStepsUnder'. -/
def fnExactStepsUnderCard : Claim7 := { stood := { row := fnExactStepsUnderRow, standIns := [], harness := (true, "7e018a238d2a7dfa529d154a8d86bdba60ec360a9e1c7b8963514ef93c7be3eb"), looks := true }, kinds := [], alts := [], laidByText := true, laidKinds := [.data], laidTests := true, laidLooks := .later }
def FnExactStepsUnderCardSaid : Prop := Claim7.holds Tryd.pinned (.plain (OpenSpec.ofChange fnExactStepsUnderSpec)) fnExactStepsUnderCard

/-- THE TIED CARD OF 'laws.FnExactLeavesOf'. -/
def fnExactLeavesOfCard : Claim7 := { stood := { row := fnExactLeavesOfRow, standIns := [], harness := (true, "7e018a238d2a7dfa529d154a8d86bdba60ec360a9e1c7b8963514ef93c7be3eb"), looks := true }, kinds := [], alts := [], laidByText := true, laidKinds := [.data], laidTests := true, laidLooks := .later }
def FnExactLeavesOfCardSaid : Prop := Claim7.holds Tryd.pinned (.plain (OpenSpec.ofChange fnExactLeavesOfSpec)) fnExactLeavesOfCard

/-- THE TIED CARD OF 'laws.FnExactDeepOf'. -/
def fnExactDeepOfCard : Claim7 := { stood := { row := fnExactDeepOfRow, standIns := [], harness := (true, "7e018a238d2a7dfa529d154a8d86bdba60ec360a9e1c7b8963514ef93c7be3eb"), looks := true }, kinds := [], alts := [], laidByText := true, laidKinds := [.data], laidTests := true, laidLooks := .later }
def FnExactDeepOfCardSaid : Prop := Claim7.holds Tryd.pinned (.plain (OpenSpec.ofChange fnExactDeepOfSpec)) fnExactDeepOfCard

/-- THE TIED CARD OF 'laws.FnExactTagFault'. -/
def fnExactTagFaultCard : Claim7 := { stood := { row := fnExactTagFaultRow, standIns := [], harness := (true, "7e018a238d2a7dfa529d154a8d86bdba60ec360a9e1c7b8963514ef93c7be3eb"), looks := true }, kinds := [], alts := [], laidByText := true, laidKinds := [.data], laidTests := true, laidLooks := .later }
def FnExactTagFaultCardSaid : Prop := Claim7.holds Tryd.pinned (.plain (OpenSpec.ofChange fnExactTagFaultSpec)) fnExactTagFaultCard

/-- THE SECOND FORM's CARD OF 'laws.FnExactProcFault'. -/
def fnExactProcFaultUptoCard : Claim7 := { stood := { row := fnExactProcFaultUptoRow, standIns := [], harness := (true, "7e018a238d2a7dfa529d154a8d86bdba60ec360a9e1c7b8963514ef93c7be3eb"), looks := true }, kinds := [], alts := [], laidByText := true, laidKinds := [.data], laidTests := true, laidLooks := .later }
def FnExactProcFaultUptoCardSaid : Prop := Claim7.holds Tryd.pinned (.plain (OpenSpec.upto fnExactProcFaultSpec)) fnExactProcFaultUptoCard

/-- THE SECOND FORM's CARD OF 'laws.FnExactStepsUnder'. -/
def fnExactStepsUnderUptoCard : Claim7 := { stood := { row := fnExactStepsUnderUptoRow, standIns := [], harness := (true, "7e018a238d2a7dfa529d154a8d86bdba60ec360a9e1c7b8963514ef93c7be3eb"), looks := true }, kinds := [], alts := [], laidByText := true, laidKinds := [.data], laidTests := true, laidLooks := .later }
def FnExactStepsUnderUptoCardSaid : Prop := Claim7.holds Tryd.pinned (.plain (OpenSpec.upto fnExactStepsUnderSpec)) fnExactStepsUnderUptoCard

/-- THE SECOND FORM's CARD OF 'laws.FnExactLeavesOf'. -/
def fnExactLeavesOfUptoCard : Claim7 := { stood := { row := fnExactLeavesOfUptoRow, standIns := [], harness := (true, "7e018a238d2a7dfa529d154a8d86bdba60ec360a9e1c7b8963514ef93c7be3eb"), looks := true }, kinds := [], alts := [], laidByText := true, laidKinds := [.data], laidTests := true, laidLooks := .later }
def FnExactLeavesOfUptoCardSaid : Prop := Claim7.holds Tryd.pinned (.plain (OpenSpec.upto fnExactLeavesOfSpec)) fnExactLeavesOfUptoCard

/-- THE SECOND FORM's CARD OF 'laws.FnExactDeepOf'. -/
def fnExactDeepOfUptoCard : Claim7 := { stood := { row := fnExactDeepOfUptoRow, standIns := [], harness := (true, "7e018a238d2a7dfa529d154a8d86bdba60ec360a9e1c7b8963514ef93c7be3eb"), looks := true }, kinds := [], alts := [], laidByText := true, laidKinds := [.data], laidTests := true, laidLooks := .later }
def FnExactDeepOfUptoCardSaid : Prop := Claim7.holds Tryd.pinned (.plain (OpenSpec.upto fnExactDeepOfSpec)) fnExactDeepOfUptoCard

/-- THE SECOND FORM's CARD OF 'laws.FnExactTagFault'. -/
def fnExactTagFaultUptoCard : Claim7 := { stood := { row := fnExactTagFaultUptoRow, standIns := [], harness := (true, "7e018a238d2a7dfa529d154a8d86bdba60ec360a9e1c7b8963514ef93c7be3eb"), looks := true }, kinds := [], alts := [], laidByText := true, laidKinds := [.data], laidTests := true, laidLooks := .later }
def FnExactTagFaultUptoCardSaid : Prop := Claim7.holds Tryd.pinned (.plain (OpenSpec.upto fnExactTagFaultSpec)) fnExactTagFaultUptoCard
end Rows
end Go.Proofs.YtmeoaiklbpkboaaDoor
