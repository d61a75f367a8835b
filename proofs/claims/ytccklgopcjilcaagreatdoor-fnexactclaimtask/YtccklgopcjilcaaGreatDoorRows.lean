/-
  NARROWER THAN 'FOR EVERY INPUT', by the rows' own cells (each row's printed sentence says how): FnExactNewWorld: laid · FnExactWorldFault: laid · FnExactSyncWorld: laid · FnExactDropInst: laid · FnExactClaimTask: laid · FnExactFreeTask: laid.
  DERIVED. THE GIVEN ROWS OF THIS SEAT. 6 by the template 'for every input the law returns true; each argument reads behind the call as it read before'; 0 by the template 'total and deterministic' (their statements: YtccklgopcjilcaaGreatDoorTotals.lean).
  GIVEN WITH THE SEED: the statements are not yours to turn. If you find one false, say at which input.
  Laid BY PROGRAM, IN A SANDBOX (cutbox-rows.mjs): the forced cells as the released guide's own fill.sh prints them over the translation bc38b687784d3ab8… (all of the seat's roots in one cut). By AI agents, Wed Nov 11 2026. No macro, syntax, notation, axiom, sorry.
-/
import Derived.Test.YtccklgopcjilcaaGreatDoorChecked
import GoSem.Claim
import GoSem.ClaimJoined
import GoSem.ClaimMapViews
import Derived.JoinedTies
import Derived.KernelRfl
namespace Go.Proofs.YtccklgopcjilcaaGreatDoor
/- THE CELL 'sum', in the pinned program and in every row, IS THE sha256 OF THE DUMP (.gsa) THAT YtccklgopcjilcaaGreatDoorProg.lean LOADS. Nothing in Lean hashes anything: it is a label: what it is worth is what the hold of that sum in a sandbox is worth. -/
noncomputable def Tryz.pinned : Pinned := { name := "ytccklgopcjilcaagreatdoor", sum := "bc38b687784d3ab846a6535e59a7ba1a6c44e46466a11ce1919a0a22b6306b10", checked := Tryz.checked }
namespace Rows
def none {H : Type} : Left H := { results := [], args := [] }

/- WHAT THE LISTED PACKAGE-LEVEL VARIABLES READ AS WHEN THE CALL BEGINS. Each datum BY PROGRAM (the guide's laid-datum.mjs) off the statement by which the dump's own 'gosem.cut.vars' lays the variable. In a bare row this is a premise. The card (YtccklgopcjilcaaGreatDoorCards.lean) ties it to the program's text. -/
def laid_loop_example_g00343_impl_stepRules {H : Type} : DataW H := .agg [.agg [.lit (.string [115, 101, 113]), .lit (.bool false), .lit (.bool false), .lit (.int .i64 0), .lit (.int .i64 0), .lit (.int .i64 1), .lit (.int .i64 24)], .agg [.lit (.string [116, 97, 115, 107]), .lit (.bool true), .lit (.bool false), .lit (.int .i64 0), .lit (.int .i64 0), .lit (.int .i64 0), .lit (.int .i64 0)], .agg [.lit (.string [120, 111, 114]), .lit (.bool false), .lit (.bool false), .lit (.int .i64 0), .lit (.int .i64 0), .lit (.int .i64 2), .lit (.int .i64 24)], .agg [.lit (.string [97, 110, 100]), .lit (.bool false), .lit (.bool false), .lit (.int .i64 0), .lit (.int .i64 0), .lit (.int .i64 2), .lit (.int .i64 24)], .agg [.lit (.string [119, 97, 105, 116]), .lit (.bool false), .lit (.bool false), .lit (.int .i64 0), .lit (.int .i64 9), .lit (.int .i64 0), .lit (.int .i64 0)], .agg [.lit (.string [116, 105, 109, 101, 114]), .lit (.bool false), .lit (.bool false), .lit (.int .i64 1), .lit (.int .i64 99), .lit (.int .i64 0), .lit (.int .i64 0)], .agg [.lit (.string [115, 101, 116]), .lit (.bool false), .lit (.bool true), .lit (.int .i64 0), .lit (.int .i64 3), .lit (.int .i64 0), .lit (.int .i64 0)], .agg [.lit (.string [103, 117, 97, 114, 100]), .lit (.bool false), .lit (.bool false), .lit (.int .i64 1), .lit (.int .i64 99), .lit (.int .i64 2), .lit (.int .i64 2)]]

/-- 'laws.FnExactNewWorld': WHATEVER THE INPUT: true; the input reads as it did. -/
def fnExactNewWorldSpec : ChangeSpec := { name := "fnExactNewWorld", vars := ["loop.example/g00343/impl.stepRules"], fn := fun _ => fun
  | [d, g1] => { results := [.lit (.bool true)], args := [d], vars := [g1] }
  | _ => none }
def fnExactNewWorldRow : OpenClaim := { program := "ytccklgopcjilcaagreatdoor", sum := "bc38b687784d3ab846a6535e59a7ba1a6c44e46466a11ce1919a0a22b6306b10", func := "loop.example/g00343/laws.FnExactNewWorld", spec := "fnExactNewWorld", recurses := true, named := ["loop.example/g00343/impl.stepRules"], plainKeys := false, apart := false, laid := [("loop.example/g00343/impl.stepRules", laid_loop_example_g00343_impl_stepRules)] }
def FnExactNewWorldSaid : Prop := fnExactNewWorldRow.holds Tryz.pinned (OpenSpec.ofChange fnExactNewWorldSpec)

/-- ITS FALSE NEIGHBOUR: 'it returns false'. Refute it at one input. -/
def fnExactNewWorldWrong : ChangeSpec := { name := "fnExactNewWorld", vars := ["loop.example/g00343/impl.stepRules"], fn := fun _ => fun
  | [d, g1] => { results := [.lit (.bool false)], args := [d], vars := [g1] }
  | _ => none }
def FnExactNewWorldWrongFalsely : Prop := fnExactNewWorldRow.holds Tryz.pinned (OpenSpec.ofChange fnExactNewWorldWrong)

/-- 'laws.FnExactWorldFault': WHATEVER THE INPUT: true; the input reads as it did. -/
def fnExactWorldFaultSpec : ChangeSpec := { name := "fnExactWorldFault", vars := ["loop.example/g00343/impl.stepRules"], fn := fun _ => fun
  | [d, g1] => { results := [.lit (.bool true)], args := [d], vars := [g1] }
  | _ => none }
def fnExactWorldFaultRow : OpenClaim := { program := "ytccklgopcjilcaagreatdoor", sum := "bc38b687784d3ab846a6535e59a7ba1a6c44e46466a11ce1919a0a22b6306b10", func := "loop.example/g00343/laws.FnExactWorldFault", spec := "fnExactWorldFault", recurses := true, named := ["loop.example/g00343/impl.stepRules"], plainKeys := false, apart := false, laid := [("loop.example/g00343/impl.stepRules", laid_loop_example_g00343_impl_stepRules)] }
def FnExactWorldFaultSaid : Prop := fnExactWorldFaultRow.holds Tryz.pinned (OpenSpec.ofChange fnExactWorldFaultSpec)

/-- ITS FALSE NEIGHBOUR: 'it returns false'. Refute it at one input. -/
def fnExactWorldFaultWrong : ChangeSpec := { name := "fnExactWorldFault", vars := ["loop.example/g00343/impl.stepRules"], fn := fun _ => fun
  | [d, g1] => { results := [.lit (.bool false)], args := [d], vars := [g1] }
  | _ => none }
def FnExactWorldFaultWrongFalsely : Prop := fnExactWorldFaultRow.holds Tryz.pinned (OpenSpec.ofChange fnExactWorldFaultWrong)

/-- 'laws.FnExactSyncWorld': WHATEVER THE INPUT: true; the input reads as it did. -/
def fnExactSyncWorldSpec : ChangeSpec := { name := "fnExactSyncWorld", vars := ["loop.example/g00343/impl.stepRules"], fn := fun _ => fun
  | [d, g1] => { results := [.lit (.bool true)], args := [d], vars := [g1] }
  | _ => none }
def fnExactSyncWorldRow : OpenClaim := { program := "ytccklgopcjilcaagreatdoor", sum := "bc38b687784d3ab846a6535e59a7ba1a6c44e46466a11ce1919a0a22b6306b10", func := "loop.example/g00343/laws.FnExactSyncWorld", spec := "fnExactSyncWorld", recurses := true, named := ["loop.example/g00343/impl.stepRules"], plainKeys := false, apart := false, laid := [("loop.example/g00343/impl.stepRules", laid_loop_example_g00343_impl_stepRules)] }
def FnExactSyncWorldSaid : Prop := fnExactSyncWorldRow.holds Tryz.pinned (OpenSpec.ofChange fnExactSyncWorldSpec)

/-- ITS FALSE NEIGHBOUR: 'it returns false'. Refute it at one input. -/
def fnExactSyncWorldWrong : ChangeSpec := { name := "fnExactSyncWorld", vars := ["loop.example/g00343/impl.stepRules"], fn := fun _ => fun
  | [d, g1] => { results := [.lit (.bool false)], args := [d], vars := [g1] }
  | _ => none }
def FnExactSyncWorldWrongFalsely : Prop := fnExactSyncWorldRow.holds Tryz.pinned (OpenSpec.ofChange fnExactSyncWorldWrong)

/-- 'laws.FnExactDropInst': WHATEVER THE INPUT: true; the input reads as it did. -/
def fnExactDropInstSpec : ChangeSpec := { name := "fnExactDropInst", vars := ["loop.example/g00343/impl.stepRules"], fn := fun _ => fun
  | [d1, d2, g1] => { results := [.lit (.bool true)], args := [d1, d2], vars := [g1] }
  | _ => none }
def fnExactDropInstRow : OpenClaim := { program := "ytccklgopcjilcaagreatdoor", sum := "bc38b687784d3ab846a6535e59a7ba1a6c44e46466a11ce1919a0a22b6306b10", func := "loop.example/g00343/laws.FnExactDropInst", spec := "fnExactDropInst", recurses := true, named := ["loop.example/g00343/impl.stepRules"], plainKeys := false, apart := false, laid := [("loop.example/g00343/impl.stepRules", laid_loop_example_g00343_impl_stepRules)] }
def FnExactDropInstSaid : Prop := fnExactDropInstRow.holds Tryz.pinned (OpenSpec.ofChange fnExactDropInstSpec)

/-- ITS FALSE NEIGHBOUR: 'it returns false'. Refute it at one input. -/
def fnExactDropInstWrong : ChangeSpec := { name := "fnExactDropInst", vars := ["loop.example/g00343/impl.stepRules"], fn := fun _ => fun
  | [d1, d2, g1] => { results := [.lit (.bool false)], args := [d1, d2], vars := [g1] }
  | _ => none }
def FnExactDropInstWrongFalsely : Prop := fnExactDropInstRow.holds Tryz.pinned (OpenSpec.ofChange fnExactDropInstWrong)

/-- 'laws.FnExactClaimTask': WHATEVER THE INPUT: true; the input reads as it did. -/
def fnExactClaimTaskSpec : ChangeSpec := { name := "fnExactClaimTask", vars := ["loop.example/g00343/impl.stepRules"], fn := fun _ => fun
  | [d1, d2, d3, d4, g1] => { results := [.lit (.bool true)], args := [d1, d2, d3, d4], vars := [g1] }
  | _ => none }
def fnExactClaimTaskRow : OpenClaim := { program := "ytccklgopcjilcaagreatdoor", sum := "bc38b687784d3ab846a6535e59a7ba1a6c44e46466a11ce1919a0a22b6306b10", func := "loop.example/g00343/laws.FnExactClaimTask", spec := "fnExactClaimTask", unfollowed := true, recurses := true, named := ["loop.example/g00343/impl.stepRules"], plainKeys := false, apart := false, laid := [("loop.example/g00343/impl.stepRules", laid_loop_example_g00343_impl_stepRules)] }
def FnExactClaimTaskSaid : Prop := fnExactClaimTaskRow.holds Tryz.pinned (OpenSpec.ofChange fnExactClaimTaskSpec)

/-- ITS FALSE NEIGHBOUR: 'it returns false'. Refute it at one input. -/
def fnExactClaimTaskWrong : ChangeSpec := { name := "fnExactClaimTask", vars := ["loop.example/g00343/impl.stepRules"], fn := fun _ => fun
  | [d1, d2, d3, d4, g1] => { results := [.lit (.bool false)], args := [d1, d2, d3, d4], vars := [g1] }
  | _ => none }
def FnExactClaimTaskWrongFalsely : Prop := fnExactClaimTaskRow.holds Tryz.pinned (OpenSpec.ofChange fnExactClaimTaskWrong)

/-- 'laws.FnExactFreeTask': WHATEVER THE INPUT: true; the input reads as it did. -/
def fnExactFreeTaskSpec : ChangeSpec := { name := "fnExactFreeTask", vars := ["loop.example/g00343/impl.stepRules"], fn := fun _ => fun
  | [d1, d2, d3, d4, g1] => { results := [.lit (.bool true)], args := [d1, d2, d3, d4], vars := [g1] }
  | _ => none }
def fnExactFreeTaskRow : OpenClaim := { program := "ytccklgopcjilcaagreatdoor", sum := "bc38b687784d3ab846a6535e59a7ba1a6c44e46466a11ce1919a0a22b6306b10", func := "loop.example/g00343/laws.FnExactFreeTask", spec := "fnExactFreeTask", unfollowed := true, recurses := true, named := ["loop.example/g00343/impl.stepRules"], plainKeys := false, apart := false, laid := [("loop.example/g00343/impl.stepRules", laid_loop_example_g00343_impl_stepRules)] }
def FnExactFreeTaskSaid : Prop := fnExactFreeTaskRow.holds Tryz.pinned (OpenSpec.ofChange fnExactFreeTaskSpec)

/-- ITS FALSE NEIGHBOUR: 'it returns false'. Refute it at one input. -/
def fnExactFreeTaskWrong : ChangeSpec := { name := "fnExactFreeTask", vars := ["loop.example/g00343/impl.stepRules"], fn := fun _ => fun
  | [d1, d2, d3, d4, g1] => { results := [.lit (.bool false)], args := [d1, d2, d3, d4], vars := [g1] }
  | _ => none }
def FnExactFreeTaskWrongFalsely : Prop := fnExactFreeTaskRow.holds Tryz.pinned (OpenSpec.ofChange fnExactFreeTaskWrong)

/- THE SECOND FORM. 'bulk': how many values and letters a reading holds, each counted each time it is reached (what is shared counts as often as it is met; a slice's spare places count too). A statement '..UptoSaid' is the law's where the arguments, and the package variables that the reading takes, are together of bulk at most 1048576: NARROWER than '..Said'. Prove '..Said' where nothing that the law and all that it calls make is longer than what came in: it says more and counts as full. Else prove '..UptoSaid'. A law counts once. -/
mutual
def uptoBulk {H : Type} : DataW H → Nat
  | .lit (.string bytes) => bytes.length + 1
  | .lit _ => 1
  | .nil => 1
  | .ptr d => uptoBulk d + 1
  | .slice elems spare => uptoBulkAll elems + uptoBulkAll spare + 1
  | .agg parts => uptoBulkAll parts + 1
  | .iface _ d => uptoBulk d + 1
  | .map entries => uptoBulkEntries entries + 1
  | .held _ => 1
def uptoBulkAll {H : Type} : List (DataW H) → Nat
  | [] => 0
  | d :: r => uptoBulk d + uptoBulkAll r
def uptoBulkEntries {H : Type} : List (Lit × DataW H) → Nat
  | [] => 0
  | x :: r => uptoBulkEntry x + uptoBulkEntries r
def uptoBulkEntry {H : Type} : Lit × DataW H → Nat
  | (.string bytes, d) => bytes.length + uptoBulk d + 1
  | (_, d) => uptoBulk d + 1
 end
def uptoSmall : (H : Type) → List (DataW H) → Bool := fun _ ds => decide (uptoBulkAll ds ≤ 1048576)
def OpenSpec.upto (s : _root_.Go.ChangeSpec) : _root_.Go.OpenSpec := { _root_.Go.OpenSpec.ofChange s with cond := some uptoSmall }

/-- 'laws.FnExactNewWorld', WHERE WHAT IT READS IS OF BULK AT MOST 1048576: true; the input reads as it did. -/
def fnExactNewWorldUptoRow : OpenClaim := { program := "ytccklgopcjilcaagreatdoor", sum := "bc38b687784d3ab846a6535e59a7ba1a6c44e46466a11ce1919a0a22b6306b10", func := "loop.example/g00343/laws.FnExactNewWorld", spec := "fnExactNewWorld", recurses := true, named := ["loop.example/g00343/impl.stepRules"], plainKeys := false, apart := false, laid := [("loop.example/g00343/impl.stepRules", laid_loop_example_g00343_impl_stepRules)], narrowed := true }
def FnExactNewWorldUptoSaid : Prop := fnExactNewWorldUptoRow.holds Tryz.pinned (OpenSpec.upto fnExactNewWorldSpec)

/-- 'laws.FnExactWorldFault', WHERE WHAT IT READS IS OF BULK AT MOST 1048576: true; the input reads as it did. -/
def fnExactWorldFaultUptoRow : OpenClaim := { program := "ytccklgopcjilcaagreatdoor", sum := "bc38b687784d3ab846a6535e59a7ba1a6c44e46466a11ce1919a0a22b6306b10", func := "loop.example/g00343/laws.FnExactWorldFault", spec := "fnExactWorldFault", recurses := true, named := ["loop.example/g00343/impl.stepRules"], plainKeys := false, apart := false, laid := [("loop.example/g00343/impl.stepRules", laid_loop_example_g00343_impl_stepRules)], narrowed := true }
def FnExactWorldFaultUptoSaid : Prop := fnExactWorldFaultUptoRow.holds Tryz.pinned (OpenSpec.upto fnExactWorldFaultSpec)

/-- 'laws.FnExactSyncWorld', WHERE WHAT IT READS IS OF BULK AT MOST 1048576: true; the input reads as it did. -/
def fnExactSyncWorldUptoRow : OpenClaim := { program := "ytccklgopcjilcaagreatdoor", sum := "bc38b687784d3ab846a6535e59a7ba1a6c44e46466a11ce1919a0a22b6306b10", func := "loop.example/g00343/laws.FnExactSyncWorld", spec := "fnExactSyncWorld", recurses := true, named := ["loop.example/g00343/impl.stepRules"], plainKeys := false, apart := false, laid := [("loop.example/g00343/impl.stepRules", laid_loop_example_g00343_impl_stepRules)], narrowed := true }
def FnExactSyncWorldUptoSaid : Prop := fnExactSyncWorldUptoRow.holds Tryz.pinned (OpenSpec.upto fnExactSyncWorldSpec)

/-- 'laws.FnExactDropInst', WHERE WHAT IT READS IS OF BULK AT MOST 1048576: true; the input reads as it did. -/
def fnExactDropInstUptoRow : OpenClaim := { program := "ytccklgopcjilcaagreatdoor", sum := "bc38b687784d3ab846a6535e59a7ba1a6c44e46466a11ce1919a0a22b6306b10", func := "loop.example/g00343/laws.FnExactDropInst", spec := "fnExactDropInst", recurses := true, named := ["loop.example/g00343/impl.stepRules"], plainKeys := false, apart := false, laid := [("loop.example/g00343/impl.stepRules", laid_loop_example_g00343_impl_stepRules)], narrowed := true }
def FnExactDropInstUptoSaid : Prop := fnExactDropInstUptoRow.holds Tryz.pinned (OpenSpec.upto fnExactDropInstSpec)

/-- 'laws.FnExactClaimTask', WHERE WHAT IT READS IS OF BULK AT MOST 1048576: true; the input reads as it did. -/
def fnExactClaimTaskUptoRow : OpenClaim := { program := "ytccklgopcjilcaagreatdoor", sum := "bc38b687784d3ab846a6535e59a7ba1a6c44e46466a11ce1919a0a22b6306b10", func := "loop.example/g00343/laws.FnExactClaimTask", spec := "fnExactClaimTask", unfollowed := true, recurses := true, named := ["loop.example/g00343/impl.stepRules"], plainKeys := false, apart := false, laid := [("loop.example/g00343/impl.stepRules", laid_loop_example_g00343_impl_stepRules)], narrowed := true }
def FnExactClaimTaskUptoSaid : Prop := fnExactClaimTaskUptoRow.holds Tryz.pinned (OpenSpec.upto fnExactClaimTaskSpec)

/-- 'laws.FnExactFreeTask', WHERE WHAT IT READS IS OF BULK AT MOST 1048576: true; the input reads as it did. -/
def fnExactFreeTaskUptoRow : OpenClaim := { program := "ytccklgopcjilcaagreatdoor", sum := "bc38b687784d3ab846a6535e59a7ba1a6c44e46466a11ce1919a0a22b6306b10", func := "loop.example/g00343/laws.FnExactFreeTask", spec := "fnExactFreeTask", unfollowed := true, recurses := true, named := ["loop.example/g00343/impl.stepRules"], plainKeys := false, apart := false, laid := [("loop.example/g00343/impl.stepRules", laid_loop_example_g00343_impl_stepRules)], narrowed := true }
def FnExactFreeTaskUptoSaid : Prop := fnExactFreeTaskUptoRow.holds Tryz.pinned (OpenSpec.upto fnExactFreeTaskSpec)

end Rows
end Go.Proofs.YtccklgopcjilcaaGreatDoor
