/-
  NARROWER THAN 'FOR EVERY INPUT', by the rows' own cells (each row's printed sentence says how): FnExactEscapeText: laid · FnExactUnescapeText: laid · FnExactTreeFault: laid · FnExactParseTag: laid.
  DERIVED. THE GIVEN ROWS OF THIS SEAT. 4 by the template 'for every input the law returns true; each argument reads behind the call as it read before'; 0 by the template 'total and deterministic' (their statements: YtlnmegfcecpfmagDoorTotals.lean).
  GIVEN WITH THE SEED: the statements are not yours to turn. If you find one false, say at which input.
  Laid BY PROGRAM, IN A SANDBOX (cutbox-rows.mjs): the forced cells as the released guide's own fill.sh prints them over the translation c641470316254161… (all of the seat's roots in one cut). By AI agents, Wed Nov 11 2026. No macro, syntax, notation, axiom, sorry.
-/
import Derived.Test.YtlnmegfcecpfmagDoorChecked
import GoSem.PinnedTables
import GoSem.Claim
import GoSem.ClaimJoined
import GoSem.ClaimMapViews
import Derived.JoinedTies
import Derived.KernelRfl
namespace Go.Proofs.YtlnmegfcecpfmagDoor
/- THE CELL 'sum', in the pinned program and in every row, IS THE sha256 OF THE DUMP (.gsa) THAT YtlnmegfcecpfmagDoorProg.lean LOADS. Nothing in Lean hashes anything: it is a label: what it is worth is what the hold of that sum in a sandbox is worth. -/
noncomputable def Tryd.pinned : Pinned := { name := "ytlnmegfcecpfmagdoor", sum := "c6414703162541615b9c6578c7783a7c56f1d8dfe9dbe72f5985ec09273893af", checked := Tryd.checked }
namespace Rows
def none {H : Type} : Left H := { results := [], args := [] }

/- WHAT THE LISTED PACKAGE-LEVEL VARIABLES READ AS WHEN THE CALL BEGINS. Each datum BY PROGRAM (the guide's laid-datum.mjs) off the statement by which the dump's own 'gosem.cut.vars' lays the variable. In a bare row this is a premise. The card (YtlnmegfcecpfmagDoorCards.lean) ties it to the program's text. -/
def laid_loop_example_g00343_impl_entities {H : Type} : DataW H := .agg [.agg [.lit (.string [38, 108, 116, 59]), .lit (.int .u8 60), .lit (.bool true)], .agg [.lit (.string [38, 103, 116, 59]), .lit (.int .u8 62), .lit (.bool true)], .agg [.lit (.string [38, 97, 109, 112, 59]), .lit (.int .u8 38), .lit (.bool true)], .agg [.lit (.string [38, 113, 117, 111, 116, 59]), .lit (.int .u8 34), .lit (.bool true)], .agg [.lit (.string [38, 97, 112, 111, 115, 59]), .lit (.int .u8 39), .lit (.bool false)]]
def laid_unicode_utf8_acceptRanges {H : Type} : DataW H := .agg [.agg [.lit (.int .u8 128), .lit (.int .u8 191)], .agg [.lit (.int .u8 160), .lit (.int .u8 191)], .agg [.lit (.int .u8 128), .lit (.int .u8 159)], .agg [.lit (.int .u8 144), .lit (.int .u8 191)], .agg [.lit (.int .u8 128), .lit (.int .u8 143)], .agg [.lit (.int .u8 0), .lit (.int .u8 0)], .agg [.lit (.int .u8 0), .lit (.int .u8 0)], .agg [.lit (.int .u8 0), .lit (.int .u8 0)], .agg [.lit (.int .u8 0), .lit (.int .u8 0)], .agg [.lit (.int .u8 0), .lit (.int .u8 0)], .agg [.lit (.int .u8 0), .lit (.int .u8 0)], .agg [.lit (.int .u8 0), .lit (.int .u8 0)], .agg [.lit (.int .u8 0), .lit (.int .u8 0)], .agg [.lit (.int .u8 0), .lit (.int .u8 0)], .agg [.lit (.int .u8 0), .lit (.int .u8 0)], .agg [.lit (.int .u8 0), .lit (.int .u8 0)]]
/-- One of Go's own tables, pinned by name: the form's constant. -/
def laid_unicode_utf8_first : DataW Unit := Go.Pinned.utf8First

/-- 'laws.FnExactEscapeText': WHATEVER THE INPUT: true; the input reads as it did. -/
def fnExactEscapeTextSpec : ChangeSpec := { name := "fnExactEscapeText", vars := ["loop.example/g00343/impl.entities"], fn := fun _ => fun
  | [d, g1] => { results := [.lit (.bool true)], args := [d], vars := [g1] }
  | _ => none }
def fnExactEscapeTextRow : OpenClaim := { program := "ytlnmegfcecpfmagdoor", sum := "c6414703162541615b9c6578c7783a7c56f1d8dfe9dbe72f5985ec09273893af", func := "loop.example/g00343/laws.FnExactEscapeText", spec := "fnExactEscapeText", inPlace := ["internal/abi.NoEscape"], named := ["loop.example/g00343/impl.entities"], apart := false, laid := [("loop.example/g00343/impl.entities", laid_loop_example_g00343_impl_entities)] }
def FnExactEscapeTextSaid : Prop := fnExactEscapeTextRow.holds Tryd.pinned (OpenSpec.ofChange fnExactEscapeTextSpec)

/-- ITS FALSE NEIGHBOUR: 'it returns false'. Refute it at one input. -/
def fnExactEscapeTextWrong : ChangeSpec := { name := "fnExactEscapeText", vars := ["loop.example/g00343/impl.entities"], fn := fun _ => fun
  | [d, g1] => { results := [.lit (.bool false)], args := [d], vars := [g1] }
  | _ => none }
def FnExactEscapeTextWrongFalsely : Prop := fnExactEscapeTextRow.holds Tryd.pinned (OpenSpec.ofChange fnExactEscapeTextWrong)

/-- 'laws.FnExactUnescapeText': WHATEVER THE INPUT: true; the input reads as it did. -/
def fnExactUnescapeTextSpec : ChangeSpec := { name := "fnExactUnescapeText", vars := ["loop.example/g00343/impl.entities"], fn := fun _ => fun
  | [d, g1] => { results := [.lit (.bool true)], args := [d], vars := [g1] }
  | _ => none }
def fnExactUnescapeTextRow : OpenClaim := { program := "ytlnmegfcecpfmagdoor", sum := "c6414703162541615b9c6578c7783a7c56f1d8dfe9dbe72f5985ec09273893af", func := "loop.example/g00343/laws.FnExactUnescapeText", spec := "fnExactUnescapeText", inPlace := ["internal/bytealg.IndexByteString", "internal/abi.NoEscape"], named := ["loop.example/g00343/impl.entities"], apart := false, laid := [("loop.example/g00343/impl.entities", laid_loop_example_g00343_impl_entities)] }
def FnExactUnescapeTextSaid : Prop := fnExactUnescapeTextRow.holds Tryd.pinned (OpenSpec.ofChange fnExactUnescapeTextSpec)

/-- ITS FALSE NEIGHBOUR: 'it returns false'. Refute it at one input. -/
def fnExactUnescapeTextWrong : ChangeSpec := { name := "fnExactUnescapeText", vars := ["loop.example/g00343/impl.entities"], fn := fun _ => fun
  | [d, g1] => { results := [.lit (.bool false)], args := [d], vars := [g1] }
  | _ => none }
def FnExactUnescapeTextWrongFalsely : Prop := fnExactUnescapeTextRow.holds Tryd.pinned (OpenSpec.ofChange fnExactUnescapeTextWrong)

/-- 'laws.FnExactTreeFault': WHATEVER THE INPUT: true; the input reads as it did. -/
def fnExactTreeFaultSpec : ChangeSpec := { name := "fnExactTreeFault", vars := ["loop.example/g00343/impl.entities"], fn := fun _ => fun
  | [d, g1] => { results := [.lit (.bool true)], args := [d], vars := [g1] }
  | _ => none }
def fnExactTreeFaultRow : OpenClaim := { program := "ytlnmegfcecpfmagdoor", sum := "c6414703162541615b9c6578c7783a7c56f1d8dfe9dbe72f5985ec09273893af", func := "loop.example/g00343/laws.FnExactTreeFault", spec := "fnExactTreeFault", inPlace := ["internal/abi.NoEscape"], named := ["loop.example/g00343/impl.entities"], apart := false, laid := [("loop.example/g00343/impl.entities", laid_loop_example_g00343_impl_entities)] }
def FnExactTreeFaultSaid : Prop := fnExactTreeFaultRow.holds Tryd.pinned (OpenSpec.ofChange fnExactTreeFaultSpec)

/-- ITS FALSE NEIGHBOUR: 'it returns false'. Refute it at one input. -/
def fnExactTreeFaultWrong : ChangeSpec := { name := "fnExactTreeFault", vars := ["loop.example/g00343/impl.entities"], fn := fun _ => fun
  | [d, g1] => { results := [.lit (.bool false)], args := [d], vars := [g1] }
  | _ => none }
def FnExactTreeFaultWrongFalsely : Prop := fnExactTreeFaultRow.holds Tryd.pinned (OpenSpec.ofChange fnExactTreeFaultWrong)

/-- 'laws.FnExactParseTag': WHATEVER THE INPUT: true; the input reads as it did. -/
def fnExactParseTagSpec : ChangeSpec := { name := "fnExactParseTag", vars := ["loop.example/g00343/impl.entities"], fn := fun _ => fun
  | [d, g1] => { results := [.lit (.bool true)], args := [d], vars := [g1] }
  | _ => none }
def fnExactParseTagRow : OpenClaim := { program := "ytlnmegfcecpfmagdoor", sum := "c6414703162541615b9c6578c7783a7c56f1d8dfe9dbe72f5985ec09273893af", func := "loop.example/g00343/laws.FnExactParseTag", spec := "fnExactParseTag", inPlace := ["internal/bytealg.IndexByteString", "internal/bytealg.IndexString", "internal/abi.NoEscape"], named := ["unicode/utf8.first", "unicode/utf8.acceptRanges", "internal/bytealg.MaxLen", "loop.example/g00343/impl.entities"], apart := false, laid := [("unicode/utf8.acceptRanges", laid_unicode_utf8_acceptRanges), ("loop.example/g00343/impl.entities", laid_loop_example_g00343_impl_entities), ("unicode/utf8.first", laid_unicode_utf8_first)] }
def FnExactParseTagSaid : Prop := fnExactParseTagRow.holds Tryd.pinned (OpenSpec.ofChange fnExactParseTagSpec)

/-- ITS FALSE NEIGHBOUR: 'it returns false'. Refute it at one input. -/
def fnExactParseTagWrong : ChangeSpec := { name := "fnExactParseTag", vars := ["loop.example/g00343/impl.entities"], fn := fun _ => fun
  | [d, g1] => { results := [.lit (.bool false)], args := [d], vars := [g1] }
  | _ => none }
def FnExactParseTagWrongFalsely : Prop := fnExactParseTagRow.holds Tryd.pinned (OpenSpec.ofChange fnExactParseTagWrong)

/- THE SECOND FORM. 'bulk': how many values and letters a reading holds, each counted each time it is reached (what is shared counts as often as it is met; a slice's spare places count too). A statement '..UptoSaid' is the law's where the arguments, and the package variables that the reading takes, are together of bulk at most 1048576: NARROWER than '..Said'. Prove '..Said' where nothing that the law and all that it calls make is longer than what came in: it says more and counts as full. Else prove '..UptoSaid'. A law counts once. -/
mutual
def uptoBulk {H : Type} : DataW H → Nat
  | .lit (.string bytes) => bytes.length + 1
  | .lit _ => 1
  | .nil => 1
  | .ptr d => uptoBulk d + 1
  | .slice elems spare => uptoBulkAll elems + uptoBulkAll spare + 1
  | .agg parts => uptoBulkAll parts + 1
  | .iface _ d => uptoBulk d + 1
  | .map entries => uptoBulkEntries entries + 1
  | .held _ => 1
def uptoBulkAll {H : Type} : List (DataW H) → Nat
  | [] => 0
  | d :: r => uptoBulk d + uptoBulkAll r
def uptoBulkEntries {H : Type} : List (Lit × DataW H) → Nat
  | [] => 0
  | x :: r => uptoBulkEntry x + uptoBulkEntries r
def uptoBulkEntry {H : Type} : Lit × DataW H → Nat
  | (.string bytes, d) => bytes.length + uptoBulk d + 1
  | (_, d) => uptoBulk d + 1
 end
def uptoSmall : (H : Type) → List (DataW H) → Bool := fun _ ds => decide (uptoBulkAll ds ≤ 1048576)
def OpenSpec.upto (s : _root_.Go.ChangeSpec) : _root_.Go.OpenSpec := { _root_.Go.OpenSpec.ofChange s with cond := some uptoSmall }

/-- 'laws.FnExactEscapeText', WHERE WHAT IT READS IS OF BULK AT MOST 1048576: true; the input reads as it did. -/
def fnExactEscapeTextUptoRow : OpenClaim := { program := "ytlnmegfcecpfmagdoor", sum := "c6414703162541615b9c6578c7783a7c56f1d8dfe9dbe72f5985ec09273893af", func := "loop.example/g00343/laws.FnExactEscapeText", spec := "fnExactEscapeText", inPlace := ["internal/abi.NoEscape"], named := ["loop.example/g00343/impl.entities"], apart := false, laid := [("loop.example/g00343/impl.entities", laid_loop_example_g00343_impl_entities)], narrowed := true }
def FnExactEscapeTextUptoSaid : Prop := fnExactEscapeTextUptoRow.holds Tryd.pinned (OpenSpec.upto fnExactEscapeTextSpec)

/-- 'laws.FnExactUnescapeText', WHERE WHAT IT READS IS OF BULK AT MOST 1048576: true; the input reads as it did. -/
def fnExactUnescapeTextUptoRow : OpenClaim := { program := "ytlnmegfcecpfmagdoor", sum := "c6414703162541615b9c6578c7783a7c56f1d8dfe9dbe72f5985ec09273893af", func := "loop.example/g00343/laws.FnExactUnescapeText", spec := "fnExactUnescapeText", inPlace := ["internal/bytealg.IndexByteString", "internal/abi.NoEscape"], named := ["loop.example/g00343/impl.entities"], apart := false, laid := [("loop.example/g00343/impl.entities", laid_loop_example_g00343_impl_entities)], narrowed := true }
def FnExactUnescapeTextUptoSaid : Prop := fnExactUnescapeTextUptoRow.holds Tryd.pinned (OpenSpec.upto fnExactUnescapeTextSpec)

/-- 'laws.FnExactTreeFault', WHERE WHAT IT READS IS OF BULK AT MOST 1048576: true; the input reads as it did. -/
def fnExactTreeFaultUptoRow : OpenClaim := { program := "ytlnmegfcecpfmagdoor", sum := "c6414703162541615b9c6578c7783a7c56f1d8dfe9dbe72f5985ec09273893af", func := "loop.example/g00343/laws.FnExactTreeFault", spec := "fnExactTreeFault", inPlace := ["internal/abi.NoEscape"], named := ["loop.example/g00343/impl.entities"], apart := false, laid := [("loop.example/g00343/impl.entities", laid_loop_example_g00343_impl_entities)], narrowed := true }
def FnExactTreeFaultUptoSaid : Prop := fnExactTreeFaultUptoRow.holds Tryd.pinned (OpenSpec.upto fnExactTreeFaultSpec)

/-- 'laws.FnExactParseTag', WHERE WHAT IT READS IS OF BULK AT MOST 1048576: true; the input reads as it did. -/
def fnExactParseTagUptoRow : OpenClaim := { program := "ytlnmegfcecpfmagdoor", sum := "c6414703162541615b9c6578c7783a7c56f1d8dfe9dbe72f5985ec09273893af", func := "loop.example/g00343/laws.FnExactParseTag", spec := "fnExactParseTag", inPlace := ["internal/bytealg.IndexByteString", "internal/bytealg.IndexString", "internal/abi.NoEscape"], named := ["unicode/utf8.first", "unicode/utf8.acceptRanges", "internal/bytealg.MaxLen", "loop.example/g00343/impl.entities"], apart := false, laid := [("unicode/utf8.acceptRanges", laid_unicode_utf8_acceptRanges), ("loop.example/g00343/impl.entities", laid_loop_example_g00343_impl_entities), ("unicode/utf8.first", laid_unicode_utf8_first)], narrowed := true }
def FnExactParseTagUptoSaid : Prop := fnExactParseTagUptoRow.holds Tryd.pinned (OpenSpec.upto fnExactParseTagSpec)

end Rows
end Go.Proofs.YtlnmegfcecpfmagDoor
