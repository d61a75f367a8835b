/-
  NARROWER THAN 'FOR EVERY INPUT', by the rows' own cells (each row's printed sentence says how): FnExactStartChart: laid · FnExactDoneChart: laid · FnExactTickChart: laid · FnExactMailChart: laid.
  DERIVED. THE GIVEN ROWS OF THIS SEAT. 4 by the template 'for every input the law returns true; each argument reads behind the call as it read before'; 0 by the template 'total and deterministic' (their statements: YtpgbjpfpgbjbeaaGreatDoorTotals.lean).
  GIVEN WITH THE SEED: the statements are not yours to turn. If you find one false, say at which input.
  Laid BY PROGRAM, IN A SANDBOX (cutbox-rows.mjs): the forced cells as the released guide's own fill.sh prints them over the translation 672f3f713dd41b82… (all of the seat's roots in one cut). By AI agents, Wed Nov 11 2026. No macro, syntax, notation, axiom, sorry.
-/
import Derived.Test.YtpgbjpfpgbjbeaaGreatDoorChecked
import GoSem.Claim
import GoSem.ClaimJoined
import GoSem.ClaimMapViews
import Derived.JoinedTies
import Derived.KernelRfl
namespace Go.Proofs.YtpgbjpfpgbjbeaaGreatDoor
/- THE CELL 'sum', in the pinned program and in every row, IS THE sha256 OF THE DUMP (.gsa) THAT YtpgbjpfpgbjbeaaGreatDoorProg.lean LOADS. Nothing in Lean hashes anything: it is a label: what it is worth is what the hold of that sum in a sandbox is worth. -/
noncomputable def Tryz.pinned : Pinned := { name := "ytpgbjpfpgbjbeaagreatdoor", sum := "672f3f713dd41b8285da11307128397d3636ff3c36e6ba5e962e7286f73eba1a", checked := Tryz.checked }
namespace Rows
def none {H : Type} : Left H := { results := [], args := [] }

/- WHAT THE LISTED PACKAGE-LEVEL VARIABLES READ AS WHEN THE CALL BEGINS. Each datum BY PROGRAM (the guide's laid-datum.mjs) off the statement by which the dump's own 'gosem.cut.vars' lays the variable. In a bare row this is a premise. The card (YtpgbjpfpgbjbeaaGreatDoorCards.lean) ties it to the program's text. -/
def laid_loop_example_g00343_impl_stepRules {H : Type} : DataW H := .agg [.agg [.lit (.string [115, 101, 113]), .lit (.bool false), .lit (.bool false), .lit (.int .i64 0), .lit (.int .i64 0), .lit (.int .i64 1), .lit (.int .i64 24)], .agg [.lit (.string [116, 97, 115, 107]), .lit (.bool true), .lit (.bool false), .lit (.int .i64 0), .lit (.int .i64 0), .lit (.int .i64 0), .lit (.int .i64 0)], .agg [.lit (.string [120, 111, 114]), .lit (.bool false), .lit (.bool false), .lit (.int .i64 0), .lit (.int .i64 0), .lit (.int .i64 2), .lit (.int .i64 24)], .agg [.lit (.string [97, 110, 100]), .lit (.bool false), .lit (.bool false), .lit (.int .i64 0), .lit (.int .i64 0), .lit (.int .i64 2), .lit (.int .i64 24)], .agg [.lit (.string [119, 97, 105, 116]), .lit (.bool false), .lit (.bool false), .lit (.int .i64 0), .lit (.int .i64 9), .lit (.int .i64 0), .lit (.int .i64 0)], .agg [.lit (.string [116, 105, 109, 101, 114]), .lit (.bool false), .lit (.bool false), .lit (.int .i64 1), .lit (.int .i64 99), .lit (.int .i64 0), .lit (.int .i64 0)], .agg [.lit (.string [115, 101, 116]), .lit (.bool false), .lit (.bool true), .lit (.int .i64 0), .lit (.int .i64 3), .lit (.int .i64 0), .lit (.int .i64 0)], .agg [.lit (.string [103, 117, 97, 114, 100]), .lit (.bool false), .lit (.bool false), .lit (.int .i64 1), .lit (.int .i64 99), .lit (.int .i64 2), .lit (.int .i64 2)]]

/-- 'laws.FnExactStartChart': WHATEVER THE INPUT: true; the input reads as it did. -/
def fnExactStartChartSpec : ChangeSpec := { name := "fnExactStartChart", vars := ["loop.example/g00343/impl.stepRules"], fn := fun _ => fun
  | [d1, d2, d3, g1] => { results := [.lit (.bool true)], args := [d1, d2, d3], vars := [g1] }
  | _ => none }
def fnExactStartChartRow : OpenClaim := { program := "ytpgbjpfpgbjbeaagreatdoor", sum := "672f3f713dd41b8285da11307128397d3636ff3c36e6ba5e962e7286f73eba1a", func := "loop.example/g00343/laws.FnExactStartChart", spec := "fnExactStartChart", unfollowed := true, recurses := true, named := ["loop.example/g00343/impl.stepRules"], apart := false, laid := [("loop.example/g00343/impl.stepRules", laid_loop_example_g00343_impl_stepRules)] }
def FnExactStartChartSaid : Prop := fnExactStartChartRow.holds Tryz.pinned (OpenSpec.ofChange fnExactStartChartSpec)

/-- ITS FALSE NEIGHBOUR: 'it returns false'. Refute it at one input. -/
def fnExactStartChartWrong : ChangeSpec := { name := "fnExactStartChart", vars := ["loop.example/g00343/impl.stepRules"], fn := fun _ => fun
  | [d1, d2, d3, g1] => { results := [.lit (.bool false)], args := [d1, d2, d3], vars := [g1] }
  | _ => none }
def FnExactStartChartWrongFalsely : Prop := fnExactStartChartRow.holds Tryz.pinned (OpenSpec.ofChange fnExactStartChartWrong)

/-- 'laws.FnExactDoneChart': WHATEVER THE INPUT: true; the input reads as it did. -/
def fnExactDoneChartSpec : ChangeSpec := { name := "fnExactDoneChart", vars := ["loop.example/g00343/impl.stepRules"], fn := fun _ => fun
  | [d1, d2, d3, d4, g1] => { results := [.lit (.bool true)], args := [d1, d2, d3, d4], vars := [g1] }
  | _ => none }
def fnExactDoneChartRow : OpenClaim := { program := "ytpgbjpfpgbjbeaagreatdoor", sum := "672f3f713dd41b8285da11307128397d3636ff3c36e6ba5e962e7286f73eba1a", func := "loop.example/g00343/laws.FnExactDoneChart", spec := "fnExactDoneChart", unfollowed := true, recurses := true, named := ["loop.example/g00343/impl.stepRules"], apart := false, laid := [("loop.example/g00343/impl.stepRules", laid_loop_example_g00343_impl_stepRules)] }
def FnExactDoneChartSaid : Prop := fnExactDoneChartRow.holds Tryz.pinned (OpenSpec.ofChange fnExactDoneChartSpec)

/-- ITS FALSE NEIGHBOUR: 'it returns false'. Refute it at one input. -/
def fnExactDoneChartWrong : ChangeSpec := { name := "fnExactDoneChart", vars := ["loop.example/g00343/impl.stepRules"], fn := fun _ => fun
  | [d1, d2, d3, d4, g1] => { results := [.lit (.bool false)], args := [d1, d2, d3, d4], vars := [g1] }
  | _ => none }
def FnExactDoneChartWrongFalsely : Prop := fnExactDoneChartRow.holds Tryz.pinned (OpenSpec.ofChange fnExactDoneChartWrong)

/-- 'laws.FnExactTickChart': WHATEVER THE INPUT: true; the input reads as it did. -/
def fnExactTickChartSpec : ChangeSpec := { name := "fnExactTickChart", vars := ["loop.example/g00343/impl.stepRules"], fn := fun _ => fun
  | [d1, d2, d3, g1] => { results := [.lit (.bool true)], args := [d1, d2, d3], vars := [g1] }
  | _ => none }
def fnExactTickChartRow : OpenClaim := { program := "ytpgbjpfpgbjbeaagreatdoor", sum := "672f3f713dd41b8285da11307128397d3636ff3c36e6ba5e962e7286f73eba1a", func := "loop.example/g00343/laws.FnExactTickChart", spec := "fnExactTickChart", unfollowed := true, recurses := true, named := ["loop.example/g00343/impl.stepRules"], apart := false, laid := [("loop.example/g00343/impl.stepRules", laid_loop_example_g00343_impl_stepRules)] }
def FnExactTickChartSaid : Prop := fnExactTickChartRow.holds Tryz.pinned (OpenSpec.ofChange fnExactTickChartSpec)

/-- ITS FALSE NEIGHBOUR: 'it returns false'. Refute it at one input. -/
def fnExactTickChartWrong : ChangeSpec := { name := "fnExactTickChart", vars := ["loop.example/g00343/impl.stepRules"], fn := fun _ => fun
  | [d1, d2, d3, g1] => { results := [.lit (.bool false)], args := [d1, d2, d3], vars := [g1] }
  | _ => none }
def FnExactTickChartWrongFalsely : Prop := fnExactTickChartRow.holds Tryz.pinned (OpenSpec.ofChange fnExactTickChartWrong)

/-- 'laws.FnExactMailChart': WHATEVER THE INPUT: true; the input reads as it did. -/
def fnExactMailChartSpec : ChangeSpec := { name := "fnExactMailChart", vars := ["loop.example/g00343/impl.stepRules"], fn := fun _ => fun
  | [d1, d2, d3, g1] => { results := [.lit (.bool true)], args := [d1, d2, d3], vars := [g1] }
  | _ => none }
def fnExactMailChartRow : OpenClaim := { program := "ytpgbjpfpgbjbeaagreatdoor", sum := "672f3f713dd41b8285da11307128397d3636ff3c36e6ba5e962e7286f73eba1a", func := "loop.example/g00343/laws.FnExactMailChart", spec := "fnExactMailChart", unfollowed := true, recurses := true, named := ["loop.example/g00343/impl.stepRules"], apart := false, laid := [("loop.example/g00343/impl.stepRules", laid_loop_example_g00343_impl_stepRules)] }
def FnExactMailChartSaid : Prop := fnExactMailChartRow.holds Tryz.pinned (OpenSpec.ofChange fnExactMailChartSpec)

/-- ITS FALSE NEIGHBOUR: 'it returns false'. Refute it at one input. -/
def fnExactMailChartWrong : ChangeSpec := { name := "fnExactMailChart", vars := ["loop.example/g00343/impl.stepRules"], fn := fun _ => fun
  | [d1, d2, d3, g1] => { results := [.lit (.bool false)], args := [d1, d2, d3], vars := [g1] }
  | _ => none }
def FnExactMailChartWrongFalsely : Prop := fnExactMailChartRow.holds Tryz.pinned (OpenSpec.ofChange fnExactMailChartWrong)

/- THE SECOND FORM. 'bulk': how many values and letters a reading holds, each counted each time it is reached (what is shared counts as often as it is met; a slice's spare places count too). A statement '..UptoSaid' is the law's where the arguments, and the package variables that the reading takes, are together of bulk at most 1048576: NARROWER than '..Said'. Prove '..Said' where nothing that the law and all that it calls make is longer than what came in: it says more and counts as full. Else prove '..UptoSaid'. A law counts once. -/
mutual
def uptoBulk {H : Type} : DataW H → Nat
  | .lit (.string bytes) => bytes.length + 1
  | .lit _ => 1
  | .nil => 1
  | .ptr d => uptoBulk d + 1
  | .slice elems spare => uptoBulkAll elems + uptoBulkAll spare + 1
  | .agg parts => uptoBulkAll parts + 1
  | .iface _ d => uptoBulk d + 1
  | .map entries => uptoBulkEntries entries + 1
  | .held _ => 1
def uptoBulkAll {H : Type} : List (DataW H) → Nat
  | [] => 0
  | d :: r => uptoBulk d + uptoBulkAll r
def uptoBulkEntries {H : Type} : List (Lit × DataW H) → Nat
  | [] => 0
  | x :: r => uptoBulkEntry x + uptoBulkEntries r
def uptoBulkEntry {H : Type} : Lit × DataW H → Nat
  | (.string bytes, d) => bytes.length + uptoBulk d + 1
  | (_, d) => uptoBulk d + 1
 end
def uptoSmall : (H : Type) → List (DataW H) → Bool := fun _ ds => decide (uptoBulkAll ds ≤ 1048576)
def OpenSpec.upto (s : _root_.Go.ChangeSpec) : _root_.Go.OpenSpec := { _root_.Go.OpenSpec.ofChange s with cond := some uptoSmall }

/-- 'laws.FnExactStartChart', WHERE WHAT IT READS IS OF BULK AT MOST 1048576: true; the input reads as it did. -/
def fnExactStartChartUptoRow : OpenClaim := { program := "ytpgbjpfpgbjbeaagreatdoor", sum := "672f3f713dd41b8285da11307128397d3636ff3c36e6ba5e962e7286f73eba1a", func := "loop.example/g00343/laws.FnExactStartChart", spec := "fnExactStartChart", unfollowed := true, recurses := true, named := ["loop.example/g00343/impl.stepRules"], apart := false, laid := [("loop.example/g00343/impl.stepRules", laid_loop_example_g00343_impl_stepRules)], narrowed := true }
def FnExactStartChartUptoSaid : Prop := fnExactStartChartUptoRow.holds Tryz.pinned (OpenSpec.upto fnExactStartChartSpec)

/-- 'laws.FnExactDoneChart', WHERE WHAT IT READS IS OF BULK AT MOST 1048576: true; the input reads as it did. -/
def fnExactDoneChartUptoRow : OpenClaim := { program := "ytpgbjpfpgbjbeaagreatdoor", sum := "672f3f713dd41b8285da11307128397d3636ff3c36e6ba5e962e7286f73eba1a", func := "loop.example/g00343/laws.FnExactDoneChart", spec := "fnExactDoneChart", unfollowed := true, recurses := true, named := ["loop.example/g00343/impl.stepRules"], apart := false, laid := [("loop.example/g00343/impl.stepRules", laid_loop_example_g00343_impl_stepRules)], narrowed := true }
def FnExactDoneChartUptoSaid : Prop := fnExactDoneChartUptoRow.holds Tryz.pinned (OpenSpec.upto fnExactDoneChartSpec)

/-- 'laws.FnExactTickChart', WHERE WHAT IT READS IS OF BULK AT MOST 1048576: true; the input reads as it did. -/
def fnExactTickChartUptoRow : OpenClaim := { program := "ytpgbjpfpgbjbeaagreatdoor", sum := "672f3f713dd41b8285da11307128397d3636ff3c36e6ba5e962e7286f73eba1a", func := "loop.example/g00343/laws.FnExactTickChart", spec := "fnExactTickChart", unfollowed := true, recurses := true, named := ["loop.example/g00343/impl.stepRules"], apart := false, laid := [("loop.example/g00343/impl.stepRules", laid_loop_example_g00343_impl_stepRules)], narrowed := true }
def FnExactTickChartUptoSaid : Prop := fnExactTickChartUptoRow.holds Tryz.pinned (OpenSpec.upto fnExactTickChartSpec)

/-- 'laws.FnExactMailChart', WHERE WHAT IT READS IS OF BULK AT MOST 1048576: true; the input reads as it did. -/
def fnExactMailChartUptoRow : OpenClaim := { program := "ytpgbjpfpgbjbeaagreatdoor", sum := "672f3f713dd41b8285da11307128397d3636ff3c36e6ba5e962e7286f73eba1a", func := "loop.example/g00343/laws.FnExactMailChart", spec := "fnExactMailChart", unfollowed := true, recurses := true, named := ["loop.example/g00343/impl.stepRules"], apart := false, laid := [("loop.example/g00343/impl.stepRules", laid_loop_example_g00343_impl_stepRules)], narrowed := true }
def FnExactMailChartUptoSaid : Prop := fnExactMailChartUptoRow.holds Tryz.pinned (OpenSpec.upto fnExactMailChartSpec)

end Rows
end Go.Proofs.YtpgbjpfpgbjbeaaGreatDoor
