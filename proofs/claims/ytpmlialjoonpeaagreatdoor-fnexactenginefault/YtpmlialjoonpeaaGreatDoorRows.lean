/-
  NARROWER THAN 'FOR EVERY INPUT', by the rows' own cells (each row's printed sentence says how): FnExactEngineFault: laid · FnExactNewEngine: laid · FnExactStartInst: laid · FnExactDoneInst: laid · FnExactMailInst: laid · FnExactTickEngine: laid · FnExactDropInst: laid.
  DERIVED. THE GIVEN ROWS OF THIS SEAT. 7 by the template 'for every input the law returns true; each argument reads behind the call as it read before'; 0 by the template 'total and deterministic' (their statements: YtpmlialjoonpeaaGreatDoorTotals.lean).
  GIVEN WITH THE SEED: the statements are not yours to turn. If you find one false, say at which input.
  Laid BY PROGRAM, IN A SANDBOX (cutbox-rows.mjs): the forced cells as the released guide's own fill.sh prints them over the translation 0c27c43ea80ca9c1… (all of the seat's roots in one cut). By AI agents, Wed Nov 11 2026. No macro, syntax, notation, axiom, sorry.
-/
import Derived.Test.YtpmlialjoonpeaaGreatDoorChecked
import GoSem.Claim
import GoSem.ClaimJoined
import GoSem.ClaimMapViews
import Derived.JoinedTies
import Derived.KernelRfl
namespace Go.Proofs.YtpmlialjoonpeaaGreatDoor
/- THE CELL 'sum', in the pinned program and in every row, IS THE sha256 OF THE DUMP (.gsa) THAT YtpmlialjoonpeaaGreatDoorProg.lean LOADS. Nothing in Lean hashes anything: it is a label: what it is worth is what the hold of that sum in a sandbox is worth. -/
noncomputable def Tryz.pinned : Pinned := { name := "ytpmlialjoonpeaagreatdoor", sum := "0c27c43ea80ca9c1c6564f166115f448ba5d72f34b18578dd4601738f9a4e1fc", checked := Tryz.checked }
namespace Rows
def none {H : Type} : Left H := { results := [], args := [] }

/- WHAT THE LISTED PACKAGE-LEVEL VARIABLES READ AS WHEN THE CALL BEGINS. Each datum BY PROGRAM (the guide's laid-datum.mjs) off the statement by which the dump's own 'gosem.cut.vars' lays the variable. In a bare row this is a premise. The card (YtpmlialjoonpeaaGreatDoorCards.lean) ties it to the program's text. -/
def laid_loop_example_g00343_impl_stepRules {H : Type} : DataW H := .agg [.agg [.lit (.string [115, 101, 113]), .lit (.bool false), .lit (.bool false), .lit (.int .i64 0), .lit (.int .i64 0), .lit (.int .i64 1), .lit (.int .i64 24)], .agg [.lit (.string [116, 97, 115, 107]), .lit (.bool true), .lit (.bool false), .lit (.int .i64 0), .lit (.int .i64 0), .lit (.int .i64 0), .lit (.int .i64 0)], .agg [.lit (.string [120, 111, 114]), .lit (.bool false), .lit (.bool false), .lit (.int .i64 0), .lit (.int .i64 0), .lit (.int .i64 2), .lit (.int .i64 24)], .agg [.lit (.string [97, 110, 100]), .lit (.bool false), .lit (.bool false), .lit (.int .i64 0), .lit (.int .i64 0), .lit (.int .i64 2), .lit (.int .i64 24)], .agg [.lit (.string [119, 97, 105, 116]), .lit (.bool false), .lit (.bool false), .lit (.int .i64 0), .lit (.int .i64 9), .lit (.int .i64 0), .lit (.int .i64 0)], .agg [.lit (.string [116, 105, 109, 101, 114]), .lit (.bool false), .lit (.bool false), .lit (.int .i64 1), .lit (.int .i64 99), .lit (.int .i64 0), .lit (.int .i64 0)], .agg [.lit (.string [115, 101, 116]), .lit (.bool false), .lit (.bool true), .lit (.int .i64 0), .lit (.int .i64 3), .lit (.int .i64 0), .lit (.int .i64 0)], .agg [.lit (.string [103, 117, 97, 114, 100]), .lit (.bool false), .lit (.bool false), .lit (.int .i64 1), .lit (.int .i64 99), .lit (.int .i64 2), .lit (.int .i64 2)]]

/-- 'laws.FnExactEngineFault': WHATEVER THE INPUT: true; the input reads as it did. -/
def fnExactEngineFaultSpec : ChangeSpec := { name := "fnExactEngineFault", vars := ["loop.example/g00343/impl.stepRules"], fn := fun _ => fun
  | [d, g1] => { results := [.lit (.bool true)], args := [d], vars := [g1] }
  | _ => none }
def fnExactEngineFaultRow : OpenClaim := { program := "ytpmlialjoonpeaagreatdoor", sum := "0c27c43ea80ca9c1c6564f166115f448ba5d72f34b18578dd4601738f9a4e1fc", func := "loop.example/g00343/laws.FnExactEngineFault", spec := "fnExactEngineFault", recurses := true, named := ["loop.example/g00343/impl.stepRules"], apart := false, laid := [("loop.example/g00343/impl.stepRules", laid_loop_example_g00343_impl_stepRules)] }
def FnExactEngineFaultSaid : Prop := fnExactEngineFaultRow.holds Tryz.pinned (OpenSpec.ofChange fnExactEngineFaultSpec)

/-- ITS FALSE NEIGHBOUR: 'it returns false'. Refute it at one input. -/
def fnExactEngineFaultWrong : ChangeSpec := { name := "fnExactEngineFault", vars := ["loop.example/g00343/impl.stepRules"], fn := fun _ => fun
  | [d, g1] => { results := [.lit (.bool false)], args := [d], vars := [g1] }
  | _ => none }
def FnExactEngineFaultWrongFalsely : Prop := fnExactEngineFaultRow.holds Tryz.pinned (OpenSpec.ofChange fnExactEngineFaultWrong)

/-- 'laws.FnExactNewEngine': WHATEVER THE INPUT: true; the input reads as it did. -/
def fnExactNewEngineSpec : ChangeSpec := { name := "fnExactNewEngine", vars := ["loop.example/g00343/impl.stepRules"], fn := fun _ => fun
  | [d, g1] => { results := [.lit (.bool true)], args := [d], vars := [g1] }
  | _ => none }
def fnExactNewEngineRow : OpenClaim := { program := "ytpmlialjoonpeaagreatdoor", sum := "0c27c43ea80ca9c1c6564f166115f448ba5d72f34b18578dd4601738f9a4e1fc", func := "loop.example/g00343/laws.FnExactNewEngine", spec := "fnExactNewEngine", recurses := true, named := ["loop.example/g00343/impl.stepRules"], apart := false, laid := [("loop.example/g00343/impl.stepRules", laid_loop_example_g00343_impl_stepRules)] }
def FnExactNewEngineSaid : Prop := fnExactNewEngineRow.holds Tryz.pinned (OpenSpec.ofChange fnExactNewEngineSpec)

/-- ITS FALSE NEIGHBOUR: 'it returns false'. Refute it at one input. -/
def fnExactNewEngineWrong : ChangeSpec := { name := "fnExactNewEngine", vars := ["loop.example/g00343/impl.stepRules"], fn := fun _ => fun
  | [d, g1] => { results := [.lit (.bool false)], args := [d], vars := [g1] }
  | _ => none }
def FnExactNewEngineWrongFalsely : Prop := fnExactNewEngineRow.holds Tryz.pinned (OpenSpec.ofChange fnExactNewEngineWrong)

/-- 'laws.FnExactStartInst': WHATEVER THE INPUT: true; the input reads as it did. -/
def fnExactStartInstSpec : ChangeSpec := { name := "fnExactStartInst", vars := ["loop.example/g00343/impl.stepRules"], fn := fun _ => fun
  | [d1, d2, d3, g1] => { results := [.lit (.bool true)], args := [d1, d2, d3], vars := [g1] }
  | _ => none }
def fnExactStartInstRow : OpenClaim := { program := "ytpmlialjoonpeaagreatdoor", sum := "0c27c43ea80ca9c1c6564f166115f448ba5d72f34b18578dd4601738f9a4e1fc", func := "loop.example/g00343/laws.FnExactStartInst", spec := "fnExactStartInst", unfollowed := true, recurses := true, named := ["loop.example/g00343/impl.stepRules"], apart := false, laid := [("loop.example/g00343/impl.stepRules", laid_loop_example_g00343_impl_stepRules)] }
def FnExactStartInstSaid : Prop := fnExactStartInstRow.holds Tryz.pinned (OpenSpec.ofChange fnExactStartInstSpec)

/-- ITS FALSE NEIGHBOUR: 'it returns false'. Refute it at one input. -/
def fnExactStartInstWrong : ChangeSpec := { name := "fnExactStartInst", vars := ["loop.example/g00343/impl.stepRules"], fn := fun _ => fun
  | [d1, d2, d3, g1] => { results := [.lit (.bool false)], args := [d1, d2, d3], vars := [g1] }
  | _ => none }
def FnExactStartInstWrongFalsely : Prop := fnExactStartInstRow.holds Tryz.pinned (OpenSpec.ofChange fnExactStartInstWrong)

/-- 'laws.FnExactDoneInst': WHATEVER THE INPUT: true; the input reads as it did. -/
def fnExactDoneInstSpec : ChangeSpec := { name := "fnExactDoneInst", vars := ["loop.example/g00343/impl.stepRules"], fn := fun _ => fun
  | [d1, d2, d3, d4, g1] => { results := [.lit (.bool true)], args := [d1, d2, d3, d4], vars := [g1] }
  | _ => none }
def fnExactDoneInstRow : OpenClaim := { program := "ytpmlialjoonpeaagreatdoor", sum := "0c27c43ea80ca9c1c6564f166115f448ba5d72f34b18578dd4601738f9a4e1fc", func := "loop.example/g00343/laws.FnExactDoneInst", spec := "fnExactDoneInst", unfollowed := true, recurses := true, named := ["loop.example/g00343/impl.stepRules"], apart := false, laid := [("loop.example/g00343/impl.stepRules", laid_loop_example_g00343_impl_stepRules)] }
def FnExactDoneInstSaid : Prop := fnExactDoneInstRow.holds Tryz.pinned (OpenSpec.ofChange fnExactDoneInstSpec)

/-- ITS FALSE NEIGHBOUR: 'it returns false'. Refute it at one input. -/
def fnExactDoneInstWrong : ChangeSpec := { name := "fnExactDoneInst", vars := ["loop.example/g00343/impl.stepRules"], fn := fun _ => fun
  | [d1, d2, d3, d4, g1] => { results := [.lit (.bool false)], args := [d1, d2, d3, d4], vars := [g1] }
  | _ => none }
def FnExactDoneInstWrongFalsely : Prop := fnExactDoneInstRow.holds Tryz.pinned (OpenSpec.ofChange fnExactDoneInstWrong)

/-- 'laws.FnExactMailInst': WHATEVER THE INPUT: true; the input reads as it did. -/
def fnExactMailInstSpec : ChangeSpec := { name := "fnExactMailInst", vars := ["loop.example/g00343/impl.stepRules"], fn := fun _ => fun
  | [d1, d2, d3, g1] => { results := [.lit (.bool true)], args := [d1, d2, d3], vars := [g1] }
  | _ => none }
def fnExactMailInstRow : OpenClaim := { program := "ytpmlialjoonpeaagreatdoor", sum := "0c27c43ea80ca9c1c6564f166115f448ba5d72f34b18578dd4601738f9a4e1fc", func := "loop.example/g00343/laws.FnExactMailInst", spec := "fnExactMailInst", unfollowed := true, recurses := true, named := ["loop.example/g00343/impl.stepRules"], apart := false, laid := [("loop.example/g00343/impl.stepRules", laid_loop_example_g00343_impl_stepRules)] }
def FnExactMailInstSaid : Prop := fnExactMailInstRow.holds Tryz.pinned (OpenSpec.ofChange fnExactMailInstSpec)

/-- ITS FALSE NEIGHBOUR: 'it returns false'. Refute it at one input. -/
def fnExactMailInstWrong : ChangeSpec := { name := "fnExactMailInst", vars := ["loop.example/g00343/impl.stepRules"], fn := fun _ => fun
  | [d1, d2, d3, g1] => { results := [.lit (.bool false)], args := [d1, d2, d3], vars := [g1] }
  | _ => none }
def FnExactMailInstWrongFalsely : Prop := fnExactMailInstRow.holds Tryz.pinned (OpenSpec.ofChange fnExactMailInstWrong)

/-- 'laws.FnExactTickEngine': WHATEVER THE INPUT: true; the input reads as it did. -/
def fnExactTickEngineSpec : ChangeSpec := { name := "fnExactTickEngine", vars := ["loop.example/g00343/impl.stepRules"], fn := fun _ => fun
  | [d1, d2, g1] => { results := [.lit (.bool true)], args := [d1, d2], vars := [g1] }
  | _ => none }
def fnExactTickEngineRow : OpenClaim := { program := "ytpmlialjoonpeaagreatdoor", sum := "0c27c43ea80ca9c1c6564f166115f448ba5d72f34b18578dd4601738f9a4e1fc", func := "loop.example/g00343/laws.FnExactTickEngine", spec := "fnExactTickEngine", unfollowed := true, recurses := true, named := ["loop.example/g00343/impl.stepRules"], apart := false, laid := [("loop.example/g00343/impl.stepRules", laid_loop_example_g00343_impl_stepRules)] }
def FnExactTickEngineSaid : Prop := fnExactTickEngineRow.holds Tryz.pinned (OpenSpec.ofChange fnExactTickEngineSpec)

/-- ITS FALSE NEIGHBOUR: 'it returns false'. Refute it at one input. -/
def fnExactTickEngineWrong : ChangeSpec := { name := "fnExactTickEngine", vars := ["loop.example/g00343/impl.stepRules"], fn := fun _ => fun
  | [d1, d2, g1] => { results := [.lit (.bool false)], args := [d1, d2], vars := [g1] }
  | _ => none }
def FnExactTickEngineWrongFalsely : Prop := fnExactTickEngineRow.holds Tryz.pinned (OpenSpec.ofChange fnExactTickEngineWrong)

/-- 'laws.FnExactDropInst': WHATEVER THE INPUT: true; the input reads as it did. -/
def fnExactDropInstSpec : ChangeSpec := { name := "fnExactDropInst", vars := ["loop.example/g00343/impl.stepRules"], fn := fun _ => fun
  | [d1, d2, g1] => { results := [.lit (.bool true)], args := [d1, d2], vars := [g1] }
  | _ => none }
def fnExactDropInstRow : OpenClaim := { program := "ytpmlialjoonpeaagreatdoor", sum := "0c27c43ea80ca9c1c6564f166115f448ba5d72f34b18578dd4601738f9a4e1fc", func := "loop.example/g00343/laws.FnExactDropInst", spec := "fnExactDropInst", recurses := true, named := ["loop.example/g00343/impl.stepRules"], apart := false, laid := [("loop.example/g00343/impl.stepRules", laid_loop_example_g00343_impl_stepRules)] }
def FnExactDropInstSaid : Prop := fnExactDropInstRow.holds Tryz.pinned (OpenSpec.ofChange fnExactDropInstSpec)

/-- ITS FALSE NEIGHBOUR: 'it returns false'. Refute it at one input. -/
def fnExactDropInstWrong : ChangeSpec := { name := "fnExactDropInst", vars := ["loop.example/g00343/impl.stepRules"], fn := fun _ => fun
  | [d1, d2, g1] => { results := [.lit (.bool false)], args := [d1, d2], vars := [g1] }
  | _ => none }
def FnExactDropInstWrongFalsely : Prop := fnExactDropInstRow.holds Tryz.pinned (OpenSpec.ofChange fnExactDropInstWrong)

/- THE SECOND FORM. 'bulk': how many values and letters a reading holds, each counted each time it is reached (what is shared counts as often as it is met; a slice's spare places count too). A statement '..UptoSaid' is the law's where the arguments, and the package variables that the reading takes, are together of bulk at most 1048576: NARROWER than '..Said'. Prove '..Said' where nothing that the law and all that it calls make is longer than what came in: it says more and counts as full. Else prove '..UptoSaid'. A law counts once. -/
mutual
def uptoBulk {H : Type} : DataW H → Nat
  | .lit (.string bytes) => bytes.length + 1
  | .lit _ => 1
  | .nil => 1
  | .ptr d => uptoBulk d + 1
  | .slice elems spare => uptoBulkAll elems + uptoBulkAll spare + 1
  | .agg parts => uptoBulkAll parts + 1
  | .iface _ d => uptoBulk d + 1
  | .map entries => uptoBulkEntries entries + 1
  | .held _ => 1
def uptoBulkAll {H : Type} : List (DataW H) → Nat
  | [] => 0
  | d :: r => uptoBulk d + uptoBulkAll r
def uptoBulkEntries {H : Type} : List (Lit × DataW H) → Nat
  | [] => 0
  | x :: r => uptoBulkEntry x + uptoBulkEntries r
def uptoBulkEntry {H : Type} : Lit × DataW H → Nat
  | (.string bytes, d) => bytes.length + uptoBulk d + 1
  | (_, d) => uptoBulk d + 1
 end
def uptoSmall : (H : Type) → List (DataW H) → Bool := fun _ ds => decide (uptoBulkAll ds ≤ 1048576)
def OpenSpec.upto (s : _root_.Go.ChangeSpec) : _root_.Go.OpenSpec := { _root_.Go.OpenSpec.ofChange s with cond := some uptoSmall }

/-- 'laws.FnExactEngineFault', WHERE WHAT IT READS IS OF BULK AT MOST 1048576: true; the input reads as it did. -/
def fnExactEngineFaultUptoRow : OpenClaim := { program := "ytpmlialjoonpeaagreatdoor", sum := "0c27c43ea80ca9c1c6564f166115f448ba5d72f34b18578dd4601738f9a4e1fc", func := "loop.example/g00343/laws.FnExactEngineFault", spec := "fnExactEngineFault", recurses := true, named := ["loop.example/g00343/impl.stepRules"], apart := false, laid := [("loop.example/g00343/impl.stepRules", laid_loop_example_g00343_impl_stepRules)], narrowed := true }
def FnExactEngineFaultUptoSaid : Prop := fnExactEngineFaultUptoRow.holds Tryz.pinned (OpenSpec.upto fnExactEngineFaultSpec)

/-- 'laws.FnExactNewEngine', WHERE WHAT IT READS IS OF BULK AT MOST 1048576: true; the input reads as it did. -/
def fnExactNewEngineUptoRow : OpenClaim := { program := "ytpmlialjoonpeaagreatdoor", sum := "0c27c43ea80ca9c1c6564f166115f448ba5d72f34b18578dd4601738f9a4e1fc", func := "loop.example/g00343/laws.FnExactNewEngine", spec := "fnExactNewEngine", recurses := true, named := ["loop.example/g00343/impl.stepRules"], apart := false, laid := [("loop.example/g00343/impl.stepRules", laid_loop_example_g00343_impl_stepRules)], narrowed := true }
def FnExactNewEngineUptoSaid : Prop := fnExactNewEngineUptoRow.holds Tryz.pinned (OpenSpec.upto fnExactNewEngineSpec)

/-- 'laws.FnExactStartInst', WHERE WHAT IT READS IS OF BULK AT MOST 1048576: true; the input reads as it did. -/
def fnExactStartInstUptoRow : OpenClaim := { program := "ytpmlialjoonpeaagreatdoor", sum := "0c27c43ea80ca9c1c6564f166115f448ba5d72f34b18578dd4601738f9a4e1fc", func := "loop.example/g00343/laws.FnExactStartInst", spec := "fnExactStartInst", unfollowed := true, recurses := true, named := ["loop.example/g00343/impl.stepRules"], apart := false, laid := [("loop.example/g00343/impl.stepRules", laid_loop_example_g00343_impl_stepRules)], narrowed := true }
def FnExactStartInstUptoSaid : Prop := fnExactStartInstUptoRow.holds Tryz.pinned (OpenSpec.upto fnExactStartInstSpec)

/-- 'laws.FnExactDoneInst', WHERE WHAT IT READS IS OF BULK AT MOST 1048576: true; the input reads as it did. -/
def fnExactDoneInstUptoRow : OpenClaim := { program := "ytpmlialjoonpeaagreatdoor", sum := "0c27c43ea80ca9c1c6564f166115f448ba5d72f34b18578dd4601738f9a4e1fc", func := "loop.example/g00343/laws.FnExactDoneInst", spec := "fnExactDoneInst", unfollowed := true, recurses := true, named := ["loop.example/g00343/impl.stepRules"], apart := false, laid := [("loop.example/g00343/impl.stepRules", laid_loop_example_g00343_impl_stepRules)], narrowed := true }
def FnExactDoneInstUptoSaid : Prop := fnExactDoneInstUptoRow.holds Tryz.pinned (OpenSpec.upto fnExactDoneInstSpec)

/-- 'laws.FnExactMailInst', WHERE WHAT IT READS IS OF BULK AT MOST 1048576: true; the input reads as it did. -/
def fnExactMailInstUptoRow : OpenClaim := { program := "ytpmlialjoonpeaagreatdoor", sum := "0c27c43ea80ca9c1c6564f166115f448ba5d72f34b18578dd4601738f9a4e1fc", func := "loop.example/g00343/laws.FnExactMailInst", spec := "fnExactMailInst", unfollowed := true, recurses := true, named := ["loop.example/g00343/impl.stepRules"], apart := false, laid := [("loop.example/g00343/impl.stepRules", laid_loop_example_g00343_impl_stepRules)], narrowed := true }
def FnExactMailInstUptoSaid : Prop := fnExactMailInstUptoRow.holds Tryz.pinned (OpenSpec.upto fnExactMailInstSpec)

/-- 'laws.FnExactTickEngine', WHERE WHAT IT READS IS OF BULK AT MOST 1048576: true; the input reads as it did. -/
def fnExactTickEngineUptoRow : OpenClaim := { program := "ytpmlialjoonpeaagreatdoor", sum := "0c27c43ea80ca9c1c6564f166115f448ba5d72f34b18578dd4601738f9a4e1fc", func := "loop.example/g00343/laws.FnExactTickEngine", spec := "fnExactTickEngine", unfollowed := true, recurses := true, named := ["loop.example/g00343/impl.stepRules"], apart := false, laid := [("loop.example/g00343/impl.stepRules", laid_loop_example_g00343_impl_stepRules)], narrowed := true }
def FnExactTickEngineUptoSaid : Prop := fnExactTickEngineUptoRow.holds Tryz.pinned (OpenSpec.upto fnExactTickEngineSpec)

/-- 'laws.FnExactDropInst', WHERE WHAT IT READS IS OF BULK AT MOST 1048576: true; the input reads as it did. -/
def fnExactDropInstUptoRow : OpenClaim := { program := "ytpmlialjoonpeaagreatdoor", sum := "0c27c43ea80ca9c1c6564f166115f448ba5d72f34b18578dd4601738f9a4e1fc", func := "loop.example/g00343/laws.FnExactDropInst", spec := "fnExactDropInst", recurses := true, named := ["loop.example/g00343/impl.stepRules"], apart := false, laid := [("loop.example/g00343/impl.stepRules", laid_loop_example_g00343_impl_stepRules)], narrowed := true }
def FnExactDropInstUptoSaid : Prop := fnExactDropInstUptoRow.holds Tryz.pinned (OpenSpec.upto fnExactDropInstSpec)

end Rows
end Go.Proofs.YtpmlialjoonpeaaGreatDoor
