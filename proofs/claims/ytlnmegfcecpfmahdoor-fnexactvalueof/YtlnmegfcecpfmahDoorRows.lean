/-
  NARROWER THAN 'FOR EVERY INPUT', by the rows' own cells (each row's printed sentence says how): FnExactWriteTree: laid · FnExactParseTree: laid · FnExactKidsOf: laid · FnExactValueOf: laid.
  DERIVED. THE GIVEN ROWS OF THIS SEAT. 4 by the template 'for every input the law returns true; each argument reads behind the call as it read before'; 0 by the template 'total and deterministic' (their statements: YtlnmegfcecpfmahDoorTotals.lean).
  GIVEN WITH THE SEED: the statements are not yours to turn. If you find one false, say at which input.
  Laid BY PROGRAM, IN A SANDBOX (cutbox-rows.mjs): the forced cells as the released guide's own fill.sh prints them over the translation f4f69821d2b405b1… (all of the seat's roots in one cut). By AI agents, Wed Nov 11 2026. No macro, syntax, notation, axiom, sorry.
-/
import Derived.Test.YtlnmegfcecpfmahDoorChecked
import GoSem.PinnedTables
import GoSem.Claim
import GoSem.ClaimJoined
import GoSem.ClaimMapViews
import Derived.JoinedTies
import Derived.KernelRfl
namespace Go.Proofs.YtlnmegfcecpfmahDoor
/- THE CELL 'sum', in the pinned program and in every row, IS THE sha256 OF THE DUMP (.gsa) THAT YtlnmegfcecpfmahDoorProg.lean LOADS. Nothing in Lean hashes anything: it is a label: what it is worth is what the hold of that sum in a sandbox is worth. -/
noncomputable def Tryd.pinned : Pinned := { name := "ytlnmegfcecpfmahdoor", sum := "f4f69821d2b405b10321cdb19f414dd71db14b9b31347574bd5a37b7a42a43e4", checked := Tryd.checked }
namespace Rows
def none {H : Type} : Left H := { results := [], args := [] }

/- WHAT THE LISTED PACKAGE-LEVEL VARIABLES READ AS WHEN THE CALL BEGINS. Each datum BY PROGRAM (the guide's laid-datum.mjs) off the statement by which the dump's own 'gosem.cut.vars' lays the variable. In a bare row this is a premise. The card (YtlnmegfcecpfmahDoorCards.lean) ties it to the program's text. -/
def laid_loop_example_g00343_impl_entities {H : Type} : DataW H := .agg [.agg [.lit (.string [38, 108, 116, 59]), .lit (.int .u8 60), .lit (.bool true)], .agg [.lit (.string [38, 103, 116, 59]), .lit (.int .u8 62), .lit (.bool true)], .agg [.lit (.string [38, 97, 109, 112, 59]), .lit (.int .u8 38), .lit (.bool true)], .agg [.lit (.string [38, 113, 117, 111, 116, 59]), .lit (.int .u8 34), .lit (.bool true)], .agg [.lit (.string [38, 97, 112, 111, 115, 59]), .lit (.int .u8 39), .lit (.bool false)]]
def laid_unicode_utf8_acceptRanges {H : Type} : DataW H := .agg [.agg [.lit (.int .u8 128), .lit (.int .u8 191)], .agg [.lit (.int .u8 160), .lit (.int .u8 191)], .agg [.lit (.int .u8 128), .lit (.int .u8 159)], .agg [.lit (.int .u8 144), .lit (.int .u8 191)], .agg [.lit (.int .u8 128), .lit (.int .u8 143)], .agg [.lit (.int .u8 0), .lit (.int .u8 0)], .agg [.lit (.int .u8 0), .lit (.int .u8 0)], .agg [.lit (.int .u8 0), .lit (.int .u8 0)], .agg [.lit (.int .u8 0), .lit (.int .u8 0)], .agg [.lit (.int .u8 0), .lit (.int .u8 0)], .agg [.lit (.int .u8 0), .lit (.int .u8 0)], .agg [.lit (.int .u8 0), .lit (.int .u8 0)], .agg [.lit (.int .u8 0), .lit (.int .u8 0)], .agg [.lit (.int .u8 0), .lit (.int .u8 0)], .agg [.lit (.int .u8 0), .lit (.int .u8 0)], .agg [.lit (.int .u8 0), .lit (.int .u8 0)]]
/-- One of Go's own tables, pinned by name: the form's constant. -/
def laid_unicode_utf8_first : DataW Unit := Go.Pinned.utf8First

/-- 'laws.FnExactWriteTree': WHATEVER THE INPUT: true; the input reads as it did. -/
def fnExactWriteTreeSpec : ChangeSpec := { name := "fnExactWriteTree", vars := ["loop.example/g00343/impl.entities"], fn := fun _ => fun
  | [d, g1] => { results := [.lit (.bool true)], args := [d], vars := [g1] }
  | _ => none }
def fnExactWriteTreeRow : OpenClaim := { program := "ytlnmegfcecpfmahdoor", sum := "f4f69821d2b405b10321cdb19f414dd71db14b9b31347574bd5a37b7a42a43e4", func := "loop.example/g00343/laws.FnExactWriteTree", spec := "fnExactWriteTree", inPlace := ["internal/abi.NoEscape"], recurses := true, named := ["loop.example/g00343/impl.entities"], apart := false, laid := [("loop.example/g00343/impl.entities", laid_loop_example_g00343_impl_entities)] }
def FnExactWriteTreeSaid : Prop := fnExactWriteTreeRow.holds Tryd.pinned (OpenSpec.ofChange fnExactWriteTreeSpec)

/-- ITS FALSE NEIGHBOUR: 'it returns false'. Refute it at one input. -/
def fnExactWriteTreeWrong : ChangeSpec := { name := "fnExactWriteTree", vars := ["loop.example/g00343/impl.entities"], fn := fun _ => fun
  | [d, g1] => { results := [.lit (.bool false)], args := [d], vars := [g1] }
  | _ => none }
def FnExactWriteTreeWrongFalsely : Prop := fnExactWriteTreeRow.holds Tryd.pinned (OpenSpec.ofChange fnExactWriteTreeWrong)

/-- 'laws.FnExactParseTree': WHATEVER THE INPUT: true; the input reads as it did. -/
def fnExactParseTreeSpec : ChangeSpec := { name := "fnExactParseTree", vars := ["loop.example/g00343/impl.entities"], fn := fun _ => fun
  | [d, g1] => { results := [.lit (.bool true)], args := [d], vars := [g1] }
  | _ => none }
def fnExactParseTreeRow : OpenClaim := { program := "ytlnmegfcecpfmahdoor", sum := "f4f69821d2b405b10321cdb19f414dd71db14b9b31347574bd5a37b7a42a43e4", func := "loop.example/g00343/laws.FnExactParseTree", spec := "fnExactParseTree", inPlace := ["internal/bytealg.IndexByteString", "internal/bytealg.IndexString", "internal/abi.NoEscape"], unfollowed := true, recurses := true, named := ["unicode/utf8.first", "unicode/utf8.acceptRanges", "internal/bytealg.MaxLen", "loop.example/g00343/impl.entities"], apart := false, laid := [("unicode/utf8.acceptRanges", laid_unicode_utf8_acceptRanges), ("loop.example/g00343/impl.entities", laid_loop_example_g00343_impl_entities), ("unicode/utf8.first", laid_unicode_utf8_first)] }
def FnExactParseTreeSaid : Prop := fnExactParseTreeRow.holds Tryd.pinned (OpenSpec.ofChange fnExactParseTreeSpec)

/-- ITS FALSE NEIGHBOUR: 'it returns false'. Refute it at one input. -/
def fnExactParseTreeWrong : ChangeSpec := { name := "fnExactParseTree", vars := ["loop.example/g00343/impl.entities"], fn := fun _ => fun
  | [d, g1] => { results := [.lit (.bool false)], args := [d], vars := [g1] }
  | _ => none }
def FnExactParseTreeWrongFalsely : Prop := fnExactParseTreeRow.holds Tryd.pinned (OpenSpec.ofChange fnExactParseTreeWrong)

/-- 'laws.FnExactKidsOf': WHATEVER THE INPUT: true; the input reads as it did. -/
def fnExactKidsOfSpec : ChangeSpec := { name := "fnExactKidsOf", vars := ["loop.example/g00343/impl.entities"], fn := fun _ => fun
  | [d1, d2, g1] => { results := [.lit (.bool true)], args := [d1, d2], vars := [g1] }
  | _ => none }
def fnExactKidsOfRow : OpenClaim := { program := "ytlnmegfcecpfmahdoor", sum := "f4f69821d2b405b10321cdb19f414dd71db14b9b31347574bd5a37b7a42a43e4", func := "loop.example/g00343/laws.FnExactKidsOf", spec := "fnExactKidsOf", inPlace := ["internal/abi.NoEscape"], named := ["loop.example/g00343/impl.entities"], apart := false, laid := [("loop.example/g00343/impl.entities", laid_loop_example_g00343_impl_entities)] }
def FnExactKidsOfSaid : Prop := fnExactKidsOfRow.holds Tryd.pinned (OpenSpec.ofChange fnExactKidsOfSpec)

/-- ITS FALSE NEIGHBOUR: 'it returns false'. Refute it at one input. -/
def fnExactKidsOfWrong : ChangeSpec := { name := "fnExactKidsOf", vars := ["loop.example/g00343/impl.entities"], fn := fun _ => fun
  | [d1, d2, g1] => { results := [.lit (.bool false)], args := [d1, d2], vars := [g1] }
  | _ => none }
def FnExactKidsOfWrongFalsely : Prop := fnExactKidsOfRow.holds Tryd.pinned (OpenSpec.ofChange fnExactKidsOfWrong)

/-- 'laws.FnExactValueOf': WHATEVER THE INPUT: true; the input reads as it did. -/
def fnExactValueOfSpec : ChangeSpec := { name := "fnExactValueOf", vars := ["loop.example/g00343/impl.entities"], fn := fun _ => fun
  | [d1, d2, d3, g1] => { results := [.lit (.bool true)], args := [d1, d2, d3], vars := [g1] }
  | _ => none }
def fnExactValueOfRow : OpenClaim := { program := "ytlnmegfcecpfmahdoor", sum := "f4f69821d2b405b10321cdb19f414dd71db14b9b31347574bd5a37b7a42a43e4", func := "loop.example/g00343/laws.FnExactValueOf", spec := "fnExactValueOf", inPlace := ["internal/abi.NoEscape"], named := ["loop.example/g00343/impl.entities"], apart := false, laid := [("loop.example/g00343/impl.entities", laid_loop_example_g00343_impl_entities)] }
def FnExactValueOfSaid : Prop := fnExactValueOfRow.holds Tryd.pinned (OpenSpec.ofChange fnExactValueOfSpec)

/-- ITS FALSE NEIGHBOUR: 'it returns false'. Refute it at one input. -/
def fnExactValueOfWrong : ChangeSpec := { name := "fnExactValueOf", vars := ["loop.example/g00343/impl.entities"], fn := fun _ => fun
  | [d1, d2, d3, g1] => { results := [.lit (.bool false)], args := [d1, d2, d3], vars := [g1] }
  | _ => none }
def FnExactValueOfWrongFalsely : Prop := fnExactValueOfRow.holds Tryd.pinned (OpenSpec.ofChange fnExactValueOfWrong)

/- THE SECOND FORM. 'bulk': how many values and letters a reading holds, each counted each time it is reached (what is shared counts as often as it is met; a slice's spare places count too). A statement '..UptoSaid' is the law's where the arguments, and the package variables that the reading takes, are together of bulk at most 1048576: NARROWER than '..Said'. Prove '..Said' where nothing that the law and all that it calls make is longer than what came in: it says more and counts as full. Else prove '..UptoSaid'. A law counts once. -/
mutual
def uptoBulk {H : Type} : DataW H → Nat
  | .lit (.string bytes) => bytes.length + 1
  | .lit _ => 1
  | .nil => 1
  | .ptr d => uptoBulk d + 1
  | .slice elems spare => uptoBulkAll elems + uptoBulkAll spare + 1
  | .agg parts => uptoBulkAll parts + 1
  | .iface _ d => uptoBulk d + 1
  | .map entries => uptoBulkEntries entries + 1
  | .held _ => 1
def uptoBulkAll {H : Type} : List (DataW H) → Nat
  | [] => 0
  | d :: r => uptoBulk d + uptoBulkAll r
def uptoBulkEntries {H : Type} : List (Lit × DataW H) → Nat
  | [] => 0
  | x :: r => uptoBulkEntry x + uptoBulkEntries r
def uptoBulkEntry {H : Type} : Lit × DataW H → Nat
  | (.string bytes, d) => bytes.length + uptoBulk d + 1
  | (_, d) => uptoBulk d + 1
 end
def uptoSmall : (H : Type) → List (DataW H) → Bool := fun _ ds => decide (uptoBulkAll ds ≤ 1048576)
def OpenSpec.upto (s : _root_.Go.ChangeSpec) : _root_.Go.OpenSpec := { _root_.Go.OpenSpec.ofChange s with cond := some uptoSmall }

/-- 'laws.FnExactWriteTree', WHERE WHAT IT READS IS OF BULK AT MOST 1048576: true; the input reads as it did. -/
def fnExactWriteTreeUptoRow : OpenClaim := { program := "ytlnmegfcecpfmahdoor", sum := "f4f69821d2b405b10321cdb19f414dd71db14b9b31347574bd5a37b7a42a43e4", func := "loop.example/g00343/laws.FnExactWriteTree", spec := "fnExactWriteTree", inPlace := ["internal/abi.NoEscape"], recurses := true, named := ["loop.example/g00343/impl.entities"], apart := false, laid := [("loop.example/g00343/impl.entities", laid_loop_example_g00343_impl_entities)], narrowed := true }
def FnExactWriteTreeUptoSaid : Prop := fnExactWriteTreeUptoRow.holds Tryd.pinned (OpenSpec.upto fnExactWriteTreeSpec)

/-- 'laws.FnExactParseTree', WHERE WHAT IT READS IS OF BULK AT MOST 1048576: true; the input reads as it did. -/
def fnExactParseTreeUptoRow : OpenClaim := { program := "ytlnmegfcecpfmahdoor", sum := "f4f69821d2b405b10321cdb19f414dd71db14b9b31347574bd5a37b7a42a43e4", func := "loop.example/g00343/laws.FnExactParseTree", spec := "fnExactParseTree", inPlace := ["internal/bytealg.IndexByteString", "internal/bytealg.IndexString", "internal/abi.NoEscape"], unfollowed := true, recurses := true, named := ["unicode/utf8.first", "unicode/utf8.acceptRanges", "internal/bytealg.MaxLen", "loop.example/g00343/impl.entities"], apart := false, laid := [("unicode/utf8.acceptRanges", laid_unicode_utf8_acceptRanges), ("loop.example/g00343/impl.entities", laid_loop_example_g00343_impl_entities), ("unicode/utf8.first", laid_unicode_utf8_first)], narrowed := true }
def FnExactParseTreeUptoSaid : Prop := fnExactParseTreeUptoRow.holds Tryd.pinned (OpenSpec.upto fnExactParseTreeSpec)

/-- 'laws.FnExactKidsOf', WHERE WHAT IT READS IS OF BULK AT MOST 1048576: true; the input reads as it did. -/
def fnExactKidsOfUptoRow : OpenClaim := { program := "ytlnmegfcecpfmahdoor", sum := "f4f69821d2b405b10321cdb19f414dd71db14b9b31347574bd5a37b7a42a43e4", func := "loop.example/g00343/laws.FnExactKidsOf", spec := "fnExactKidsOf", inPlace := ["internal/abi.NoEscape"], named := ["loop.example/g00343/impl.entities"], apart := false, laid := [("loop.example/g00343/impl.entities", laid_loop_example_g00343_impl_entities)], narrowed := true }
def FnExactKidsOfUptoSaid : Prop := fnExactKidsOfUptoRow.holds Tryd.pinned (OpenSpec.upto fnExactKidsOfSpec)

/-- 'laws.FnExactValueOf', WHERE WHAT IT READS IS OF BULK AT MOST 1048576: true; the input reads as it did. -/
def fnExactValueOfUptoRow : OpenClaim := { program := "ytlnmegfcecpfmahdoor", sum := "f4f69821d2b405b10321cdb19f414dd71db14b9b31347574bd5a37b7a42a43e4", func := "loop.example/g00343/laws.FnExactValueOf", spec := "fnExactValueOf", inPlace := ["internal/abi.NoEscape"], named := ["loop.example/g00343/impl.entities"], apart := false, laid := [("loop.example/g00343/impl.entities", laid_loop_example_g00343_impl_entities)], narrowed := true }
def FnExactValueOfUptoSaid : Prop := fnExactValueOfUptoRow.holds Tryd.pinned (OpenSpec.upto fnExactValueOfSpec)

end Rows
end Go.Proofs.YtlnmegfcecpfmahDoor
