/-
  NARROWER THAN 'FOR EVERY INPUT', by the rows' own cells (each row's printed sentence says how): FnExactNewEngine: laid · FnExactDropInst: laid · FnExactDeskFault: laid · FnExactOfferedAt: laid · FnExactClaimsOf: laid · FnExactClaimTask: laid · FnExactFreeTask: laid.
  DERIVED. THE GIVEN ROWS OF THIS SEAT. 7 by the template 'for every input the law returns true; each argument reads behind the call as it read before'; 0 by the template 'total and deterministic' (their statements: YtkelmhkakdeghaaGreatDoorTotals.lean).
  GIVEN WITH THE SEED: the statements are not yours to turn. If you find one false, say at which input.
  Laid BY PROGRAM, IN A SANDBOX (cutbox-rows.mjs): the forced cells as the released guide's own fill.sh prints them over the translation 5278291aa871c85e… (all of the seat's roots in one cut). By AI agents, Wed Nov 11 2026. No macro, syntax, notation, axiom, sorry.
-/
import Derived.Test.YtkelmhkakdeghaaGreatDoorChecked
import GoSem.Claim
import GoSem.ClaimJoined
import GoSem.ClaimMapViews
import Derived.JoinedTies
import Derived.KernelRfl
namespace Go.Proofs.YtkelmhkakdeghaaGreatDoor
/- THE CELL 'sum', in the pinned program and in every row, IS THE sha256 OF THE DUMP (.gsa) THAT YtkelmhkakdeghaaGreatDoorProg.lean LOADS. Nothing in Lean hashes anything: it is a label: what it is worth is what the hold of that sum in a sandbox is worth. -/
noncomputable def Tryz.pinned : Pinned := { name := "ytkelmhkakdeghaagreatdoor", sum := "5278291aa871c85edd1692f7d2cb05cde2e3ed32afd31d644128f3c82d18573c", checked := Tryz.checked }
namespace Rows
def none {H : Type} : Left H := { results := [], args := [] }

/- WHAT THE LISTED PACKAGE-LEVEL VARIABLES READ AS WHEN THE CALL BEGINS. Each datum BY PROGRAM (the guide's laid-datum.mjs) off the statement by which the dump's own 'gosem.cut.vars' lays the variable. In a bare row this is a premise. The card (YtkelmhkakdeghaaGreatDoorCards.lean) ties it to the program's text. -/
def laid_loop_example_g00343_impl_stepRules {H : Type} : DataW H := .agg [.agg [.lit (.string [115, 101, 113]), .lit (.bool false), .lit (.bool false), .lit (.int .i64 0), .lit (.int .i64 0), .lit (.int .i64 1), .lit (.int .i64 24)], .agg [.lit (.string [116, 97, 115, 107]), .lit (.bool true), .lit (.bool false), .lit (.int .i64 0), .lit (.int .i64 0), .lit (.int .i64 0), .lit (.int .i64 0)], .agg [.lit (.string [120, 111, 114]), .lit (.bool false), .lit (.bool false), .lit (.int .i64 0), .lit (.int .i64 0), .lit (.int .i64 2), .lit (.int .i64 24)], .agg [.lit (.string [97, 110, 100]), .lit (.bool false), .lit (.bool false), .lit (.int .i64 0), .lit (.int .i64 0), .lit (.int .i64 2), .lit (.int .i64 24)], .agg [.lit (.string [119, 97, 105, 116]), .lit (.bool false), .lit (.bool false), .lit (.int .i64 0), .lit (.int .i64 9), .lit (.int .i64 0), .lit (.int .i64 0)], .agg [.lit (.string [116, 105, 109, 101, 114]), .lit (.bool false), .lit (.bool false), .lit (.int .i64 1), .lit (.int .i64 99), .lit (.int .i64 0), .lit (.int .i64 0)], .agg [.lit (.string [115, 101, 116]), .lit (.bool false), .lit (.bool true), .lit (.int .i64 0), .lit (.int .i64 3), .lit (.int .i64 0), .lit (.int .i64 0)], .agg [.lit (.string [103, 117, 97, 114, 100]), .lit (.bool false), .lit (.bool false), .lit (.int .i64 1), .lit (.int .i64 99), .lit (.int .i64 2), .lit (.int .i64 2)]]

/-- 'laws.FnExactNewEngine': WHATEVER THE INPUT: true; the input reads as it did. -/
def fnExactNewEngineSpec : ChangeSpec := { name := "fnExactNewEngine", vars := ["loop.example/g00343/impl.stepRules"], fn := fun _ => fun
  | [d, g1] => { results := [.lit (.bool true)], args := [d], vars := [g1] }
  | _ => none }
def fnExactNewEngineRow : OpenClaim := { program := "ytkelmhkakdeghaagreatdoor", sum := "5278291aa871c85edd1692f7d2cb05cde2e3ed32afd31d644128f3c82d18573c", func := "loop.example/g00343/laws.FnExactNewEngine", spec := "fnExactNewEngine", recurses := true, named := ["loop.example/g00343/impl.stepRules"], plainKeys := false, apart := false, laid := [("loop.example/g00343/impl.stepRules", laid_loop_example_g00343_impl_stepRules)] }
def FnExactNewEngineSaid : Prop := fnExactNewEngineRow.holds Tryz.pinned (OpenSpec.ofChange fnExactNewEngineSpec)

/-- ITS FALSE NEIGHBOUR: 'it returns false'. Refute it at one input. -/
def fnExactNewEngineWrong : ChangeSpec := { name := "fnExactNewEngine", vars := ["loop.example/g00343/impl.stepRules"], fn := fun _ => fun
  | [d, g1] => { results := [.lit (.bool false)], args := [d], vars := [g1] }
  | _ => none }
def FnExactNewEngineWrongFalsely : Prop := fnExactNewEngineRow.holds Tryz.pinned (OpenSpec.ofChange fnExactNewEngineWrong)

/-- 'laws.FnExactDropInst': WHATEVER THE INPUT: true; the input reads as it did. -/
def fnExactDropInstSpec : ChangeSpec := { name := "fnExactDropInst", vars := ["loop.example/g00343/impl.stepRules"], fn := fun _ => fun
  | [d1, d2, g1] => { results := [.lit (.bool true)], args := [d1, d2], vars := [g1] }
  | _ => none }
def fnExactDropInstRow : OpenClaim := { program := "ytkelmhkakdeghaagreatdoor", sum := "5278291aa871c85edd1692f7d2cb05cde2e3ed32afd31d644128f3c82d18573c", func := "loop.example/g00343/laws.FnExactDropInst", spec := "fnExactDropInst", recurses := true, named := ["loop.example/g00343/impl.stepRules"], plainKeys := false, apart := false, laid := [("loop.example/g00343/impl.stepRules", laid_loop_example_g00343_impl_stepRules)] }
def FnExactDropInstSaid : Prop := fnExactDropInstRow.holds Tryz.pinned (OpenSpec.ofChange fnExactDropInstSpec)

/-- ITS FALSE NEIGHBOUR: 'it returns false'. Refute it at one input. -/
def fnExactDropInstWrong : ChangeSpec := { name := "fnExactDropInst", vars := ["loop.example/g00343/impl.stepRules"], fn := fun _ => fun
  | [d1, d2, g1] => { results := [.lit (.bool false)], args := [d1, d2], vars := [g1] }
  | _ => none }
def FnExactDropInstWrongFalsely : Prop := fnExactDropInstRow.holds Tryz.pinned (OpenSpec.ofChange fnExactDropInstWrong)

/-- 'laws.FnExactDeskFault': WHATEVER THE INPUT: true; the input reads as it did. -/
def fnExactDeskFaultSpec : ChangeSpec := { name := "fnExactDeskFault", vars := ["loop.example/g00343/impl.stepRules"], fn := fun _ => fun
  | [d, g1] => { results := [.lit (.bool true)], args := [d], vars := [g1] }
  | _ => none }
def fnExactDeskFaultRow : OpenClaim := { program := "ytkelmhkakdeghaagreatdoor", sum := "5278291aa871c85edd1692f7d2cb05cde2e3ed32afd31d644128f3c82d18573c", func := "loop.example/g00343/laws.FnExactDeskFault", spec := "fnExactDeskFault", recurses := true, named := ["loop.example/g00343/impl.stepRules"], plainKeys := false, apart := false, laid := [("loop.example/g00343/impl.stepRules", laid_loop_example_g00343_impl_stepRules)] }
def FnExactDeskFaultSaid : Prop := fnExactDeskFaultRow.holds Tryz.pinned (OpenSpec.ofChange fnExactDeskFaultSpec)

/-- ITS FALSE NEIGHBOUR: 'it returns false'. Refute it at one input. -/
def fnExactDeskFaultWrong : ChangeSpec := { name := "fnExactDeskFault", vars := ["loop.example/g00343/impl.stepRules"], fn := fun _ => fun
  | [d, g1] => { results := [.lit (.bool false)], args := [d], vars := [g1] }
  | _ => none }
def FnExactDeskFaultWrongFalsely : Prop := fnExactDeskFaultRow.holds Tryz.pinned (OpenSpec.ofChange fnExactDeskFaultWrong)

/-- 'laws.FnExactOfferedAt': WHATEVER THE INPUT: true; the input reads as it did. -/
def fnExactOfferedAtSpec : ChangeSpec := { name := "fnExactOfferedAt", vars := ["loop.example/g00343/impl.stepRules"], fn := fun _ => fun
  | [d, g1] => { results := [.lit (.bool true)], args := [d], vars := [g1] }
  | _ => none }
def fnExactOfferedAtRow : OpenClaim := { program := "ytkelmhkakdeghaagreatdoor", sum := "5278291aa871c85edd1692f7d2cb05cde2e3ed32afd31d644128f3c82d18573c", func := "loop.example/g00343/laws.FnExactOfferedAt", spec := "fnExactOfferedAt", recurses := true, named := ["loop.example/g00343/impl.stepRules"], plainKeys := false, apart := false, laid := [("loop.example/g00343/impl.stepRules", laid_loop_example_g00343_impl_stepRules)] }
def FnExactOfferedAtSaid : Prop := fnExactOfferedAtRow.holds Tryz.pinned (OpenSpec.ofChange fnExactOfferedAtSpec)

/-- ITS FALSE NEIGHBOUR: 'it returns false'. Refute it at one input. -/
def fnExactOfferedAtWrong : ChangeSpec := { name := "fnExactOfferedAt", vars := ["loop.example/g00343/impl.stepRules"], fn := fun _ => fun
  | [d, g1] => { results := [.lit (.bool false)], args := [d], vars := [g1] }
  | _ => none }
def FnExactOfferedAtWrongFalsely : Prop := fnExactOfferedAtRow.holds Tryz.pinned (OpenSpec.ofChange fnExactOfferedAtWrong)

/-- 'laws.FnExactClaimsOf': WHATEVER THE INPUT: true; the input reads as it did. -/
def fnExactClaimsOfSpec : ChangeSpec := { name := "fnExactClaimsOf", vars := ["loop.example/g00343/impl.stepRules"], fn := fun _ => fun
  | [d1, d2, g1] => { results := [.lit (.bool true)], args := [d1, d2], vars := [g1] }
  | _ => none }
def fnExactClaimsOfRow : OpenClaim := { program := "ytkelmhkakdeghaagreatdoor", sum := "5278291aa871c85edd1692f7d2cb05cde2e3ed32afd31d644128f3c82d18573c", func := "loop.example/g00343/laws.FnExactClaimsOf", spec := "fnExactClaimsOf", recurses := true, named := ["loop.example/g00343/impl.stepRules"], plainKeys := false, apart := false, laid := [("loop.example/g00343/impl.stepRules", laid_loop_example_g00343_impl_stepRules)] }
def FnExactClaimsOfSaid : Prop := fnExactClaimsOfRow.holds Tryz.pinned (OpenSpec.ofChange fnExactClaimsOfSpec)

/-- ITS FALSE NEIGHBOUR: 'it returns false'. Refute it at one input. -/
def fnExactClaimsOfWrong : ChangeSpec := { name := "fnExactClaimsOf", vars := ["loop.example/g00343/impl.stepRules"], fn := fun _ => fun
  | [d1, d2, g1] => { results := [.lit (.bool false)], args := [d1, d2], vars := [g1] }
  | _ => none }
def FnExactClaimsOfWrongFalsely : Prop := fnExactClaimsOfRow.holds Tryz.pinned (OpenSpec.ofChange fnExactClaimsOfWrong)

/-- 'laws.FnExactClaimTask': WHATEVER THE INPUT: true; the input reads as it did. -/
def fnExactClaimTaskSpec : ChangeSpec := { name := "fnExactClaimTask", vars := ["loop.example/g00343/impl.stepRules"], fn := fun _ => fun
  | [d1, d2, d3, d4, g1] => { results := [.lit (.bool true)], args := [d1, d2, d3, d4], vars := [g1] }
  | _ => none }
def fnExactClaimTaskRow : OpenClaim := { program := "ytkelmhkakdeghaagreatdoor", sum := "5278291aa871c85edd1692f7d2cb05cde2e3ed32afd31d644128f3c82d18573c", func := "loop.example/g00343/laws.FnExactClaimTask", spec := "fnExactClaimTask", unfollowed := true, recurses := true, named := ["loop.example/g00343/impl.stepRules"], plainKeys := false, apart := false, laid := [("loop.example/g00343/impl.stepRules", laid_loop_example_g00343_impl_stepRules)] }
def FnExactClaimTaskSaid : Prop := fnExactClaimTaskRow.holds Tryz.pinned (OpenSpec.ofChange fnExactClaimTaskSpec)

/-- ITS FALSE NEIGHBOUR: 'it returns false'. Refute it at one input. -/
def fnExactClaimTaskWrong : ChangeSpec := { name := "fnExactClaimTask", vars := ["loop.example/g00343/impl.stepRules"], fn := fun _ => fun
  | [d1, d2, d3, d4, g1] => { results := [.lit (.bool false)], args := [d1, d2, d3, d4], vars := [g1] }
  | _ => none }
def FnExactClaimTaskWrongFalsely : Prop := fnExactClaimTaskRow.holds Tryz.pinned (OpenSpec.ofChange fnExactClaimTaskWrong)

/-- 'laws.FnExactFreeTask': WHATEVER THE INPUT: true; the input reads as it did. -/
def fnExactFreeTaskSpec : ChangeSpec := { name := "fnExactFreeTask", vars := ["loop.example/g00343/impl.stepRules"], fn := fun _ => fun
  | [d1, d2, d3, d4, g1] => { results := [.lit (.bool true)], args := [d1, d2, d3, d4], vars := [g1] }
  | _ => none }
def fnExactFreeTaskRow : OpenClaim := { program := "ytkelmhkakdeghaagreatdoor", sum := "5278291aa871c85edd1692f7d2cb05cde2e3ed32afd31d644128f3c82d18573c", func := "loop.example/g00343/laws.FnExactFreeTask", spec := "fnExactFreeTask", unfollowed := true, recurses := true, named := ["loop.example/g00343/impl.stepRules"], plainKeys := false, apart := false, laid := [("loop.example/g00343/impl.stepRules", laid_loop_example_g00343_impl_stepRules)] }
def FnExactFreeTaskSaid : Prop := fnExactFreeTaskRow.holds Tryz.pinned (OpenSpec.ofChange fnExactFreeTaskSpec)

/-- ITS FALSE NEIGHBOUR: 'it returns false'. Refute it at one input. -/
def fnExactFreeTaskWrong : ChangeSpec := { name := "fnExactFreeTask", vars := ["loop.example/g00343/impl.stepRules"], fn := fun _ => fun
  | [d1, d2, d3, d4, g1] => { results := [.lit (.bool false)], args := [d1, d2, d3, d4], vars := [g1] }
  | _ => none }
def FnExactFreeTaskWrongFalsely : Prop := fnExactFreeTaskRow.holds Tryz.pinned (OpenSpec.ofChange fnExactFreeTaskWrong)

/- THE SECOND FORM. 'bulk': how many values and letters a reading holds, each counted each time it is reached (what is shared counts as often as it is met; a slice's spare places count too). A statement '..UptoSaid' is the law's where the arguments, and the package variables that the reading takes, are together of bulk at most 1048576: NARROWER than '..Said'. Prove '..Said' where nothing that the law and all that it calls make is longer than what came in: it says more and counts as full. Else prove '..UptoSaid'. A law counts once. -/
mutual
def uptoBulk {H : Type} : DataW H → Nat
  | .lit (.string bytes) => bytes.length + 1
  | .lit _ => 1
  | .nil => 1
  | .ptr d => uptoBulk d + 1
  | .slice elems spare => uptoBulkAll elems + uptoBulkAll spare + 1
  | .agg parts => uptoBulkAll parts + 1
  | .iface _ d => uptoBulk d + 1
  | .map entries => uptoBulkEntries entries + 1
  | .held _ => 1
def uptoBulkAll {H : Type} : List (DataW H) → Nat
  | [] => 0
  | d :: r => uptoBulk d + uptoBulkAll r
def uptoBulkEntries {H : Type} : List (Lit × DataW H) → Nat
  | [] => 0
  | x :: r => uptoBulkEntry x + uptoBulkEntries r
def uptoBulkEntry {H : Type} : Lit × DataW H → Nat
  | (.string bytes, d) => bytes.length + uptoBulk d + 1
  | (_, d) => uptoBulk d + 1
 end
def uptoSmall : (H : Type) → List (DataW H) → Bool := fun _ ds => decide (uptoBulkAll ds ≤ 1048576)
def OpenSpec.upto (s : _root_.Go.ChangeSpec) : _root_.Go.OpenSpec := { _root_.Go.OpenSpec.ofChange s with cond := some uptoSmall }

/-- 'laws.FnExactNewEngine', WHERE WHAT IT READS IS OF BULK AT MOST 1048576: true; the input reads as it did. -/
def fnExactNewEngineUptoRow : OpenClaim := { program := "ytkelmhkakdeghaagreatdoor", sum := "5278291aa871c85edd1692f7d2cb05cde2e3ed32afd31d644128f3c82d18573c", func := "loop.example/g00343/laws.FnExactNewEngine", spec := "fnExactNewEngine", recurses := true, named := ["loop.example/g00343/impl.stepRules"], plainKeys := false, apart := false, laid := [("loop.example/g00343/impl.stepRules", laid_loop_example_g00343_impl_stepRules)], narrowed := true }
def FnExactNewEngineUptoSaid : Prop := fnExactNewEngineUptoRow.holds Tryz.pinned (OpenSpec.upto fnExactNewEngineSpec)

/-- 'laws.FnExactDropInst', WHERE WHAT IT READS IS OF BULK AT MOST 1048576: true; the input reads as it did. -/
def fnExactDropInstUptoRow : OpenClaim := { program := "ytkelmhkakdeghaagreatdoor", sum := "5278291aa871c85edd1692f7d2cb05cde2e3ed32afd31d644128f3c82d18573c", func := "loop.example/g00343/laws.FnExactDropInst", spec := "fnExactDropInst", recurses := true, named := ["loop.example/g00343/impl.stepRules"], plainKeys := false, apart := false, laid := [("loop.example/g00343/impl.stepRules", laid_loop_example_g00343_impl_stepRules)], narrowed := true }
def FnExactDropInstUptoSaid : Prop := fnExactDropInstUptoRow.holds Tryz.pinned (OpenSpec.upto fnExactDropInstSpec)

/-- 'laws.FnExactDeskFault', WHERE WHAT IT READS IS OF BULK AT MOST 1048576: true; the input reads as it did. -/
def fnExactDeskFaultUptoRow : OpenClaim := { program := "ytkelmhkakdeghaagreatdoor", sum := "5278291aa871c85edd1692f7d2cb05cde2e3ed32afd31d644128f3c82d18573c", func := "loop.example/g00343/laws.FnExactDeskFault", spec := "fnExactDeskFault", recurses := true, named := ["loop.example/g00343/impl.stepRules"], plainKeys := false, apart := false, laid := [("loop.example/g00343/impl.stepRules", laid_loop_example_g00343_impl_stepRules)], narrowed := true }
def FnExactDeskFaultUptoSaid : Prop := fnExactDeskFaultUptoRow.holds Tryz.pinned (OpenSpec.upto fnExactDeskFaultSpec)

/-- 'laws.FnExactOfferedAt', WHERE WHAT IT READS IS OF BULK AT MOST 1048576: true; the input reads as it did. -/
def fnExactOfferedAtUptoRow : OpenClaim := { program := "ytkelmhkakdeghaagreatdoor", sum := "5278291aa871c85edd1692f7d2cb05cde2e3ed32afd31d644128f3c82d18573c", func := "loop.example/g00343/laws.FnExactOfferedAt", spec := "fnExactOfferedAt", recurses := true, named := ["loop.example/g00343/impl.stepRules"], plainKeys := false, apart := false, laid := [("loop.example/g00343/impl.stepRules", laid_loop_example_g00343_impl_stepRules)], narrowed := true }
def FnExactOfferedAtUptoSaid : Prop := fnExactOfferedAtUptoRow.holds Tryz.pinned (OpenSpec.upto fnExactOfferedAtSpec)

/-- 'laws.FnExactClaimsOf', WHERE WHAT IT READS IS OF BULK AT MOST 1048576: true; the input reads as it did. -/
def fnExactClaimsOfUptoRow : OpenClaim := { program := "ytkelmhkakdeghaagreatdoor", sum := "5278291aa871c85edd1692f7d2cb05cde2e3ed32afd31d644128f3c82d18573c", func := "loop.example/g00343/laws.FnExactClaimsOf", spec := "fnExactClaimsOf", recurses := true, named := ["loop.example/g00343/impl.stepRules"], plainKeys := false, apart := false, laid := [("loop.example/g00343/impl.stepRules", laid_loop_example_g00343_impl_stepRules)], narrowed := true }
def FnExactClaimsOfUptoSaid : Prop := fnExactClaimsOfUptoRow.holds Tryz.pinned (OpenSpec.upto fnExactClaimsOfSpec)

/-- 'laws.FnExactClaimTask', WHERE WHAT IT READS IS OF BULK AT MOST 1048576: true; the input reads as it did. -/
def fnExactClaimTaskUptoRow : OpenClaim := { program := "ytkelmhkakdeghaagreatdoor", sum := "5278291aa871c85edd1692f7d2cb05cde2e3ed32afd31d644128f3c82d18573c", func := "loop.example/g00343/laws.FnExactClaimTask", spec := "fnExactClaimTask", unfollowed := true, recurses := true, named := ["loop.example/g00343/impl.stepRules"], plainKeys := false, apart := false, laid := [("loop.example/g00343/impl.stepRules", laid_loop_example_g00343_impl_stepRules)], narrowed := true }
def FnExactClaimTaskUptoSaid : Prop := fnExactClaimTaskUptoRow.holds Tryz.pinned (OpenSpec.upto fnExactClaimTaskSpec)

/-- 'laws.FnExactFreeTask', WHERE WHAT IT READS IS OF BULK AT MOST 1048576: true; the input reads as it did. -/
def fnExactFreeTaskUptoRow : OpenClaim := { program := "ytkelmhkakdeghaagreatdoor", sum := "5278291aa871c85edd1692f7d2cb05cde2e3ed32afd31d644128f3c82d18573c", func := "loop.example/g00343/laws.FnExactFreeTask", spec := "fnExactFreeTask", unfollowed := true, recurses := true, named := ["loop.example/g00343/impl.stepRules"], plainKeys := false, apart := false, laid := [("loop.example/g00343/impl.stepRules", laid_loop_example_g00343_impl_stepRules)], narrowed := true }
def FnExactFreeTaskUptoSaid : Prop := fnExactFreeTaskUptoRow.holds Tryz.pinned (OpenSpec.upto fnExactFreeTaskSpec)

end Rows
end Go.Proofs.YtkelmhkakdeghaaGreatDoor
