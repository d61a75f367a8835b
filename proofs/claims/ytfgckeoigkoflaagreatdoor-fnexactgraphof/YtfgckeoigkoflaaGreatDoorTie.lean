/-
  DERIVED. GIVEN WITH THE SEED: THE PROGRAM's TIES (one call each: nine closed facts by the kernel) AND EACH ROW's TIE, after the 31st guide's Derived/Test/Toyas{Tie, Card}.lean. No idea stands in it: it is a product of the set-up. Laid BY PROGRAM, IN A SANDBOX (cutbox-door.mjs). By AI agents, Wed Nov 11 2026. No macro, syntax, notation, axiom, sorry.
-/
import Derived.Test.YtfgckeoigkoflaaGreatDoorRows
import Derived.LaidByTextLater
import Derived.SevenTiedAt
import Derived.LaidSub
import Derived.LaidOnce
namespace Go.Proofs.YtfgckeoigkoflaaGreatDoor
open Go
set_option maxRecDepth 100000
theorem seatTie1 : Tryz.prog.laidByTextLater [("loop.example/g00343/impl.stepRules", Rows.laid_loop_example_g00343_impl_stepRules), ("loop.example/g00343/impl.nodeRules", Rows.laid_loop_example_g00343_impl_nodeRules)] [.data, .data] true :=
  Program.laidByTextLater_by_one 40 8 66 (by kernel_rfl) (by kernel_rfl) (by kernel_rfl) (by kernel_rfl) (by kernel_rfl) (by kernel_rfl) (fun _ _ => by kernel_rfl)
theorem noOwnUnsafe : Tryz.pinned.checked.prog.headLifts.contains "ownunsafe" = false := by kernel_rfl
theorem tie : Tryz.prog.laidByTextLater [("loop.example/g00343/impl.stepRules", Rows.laid_loop_example_g00343_impl_stepRules), ("loop.example/g00343/impl.nodeRules", Rows.laid_loop_example_g00343_impl_nodeRules)] [.data, .data] true :=
  Program.laidByTextLater.sub seatTie1 ["loop.example/g00343/impl.stepRules", "loop.example/g00343/impl.nodeRules"] (by kernel_rfl) (by kernel_rfl)
theorem fnExactGraphOf_row_tie : Rows.fnExactGraphOfRow.laidByTextAt .later Tryz.pinned [.data, .data] true :=
  OpenClaim.laidByTextAt_later rfl rfl tie noOwnUnsafe
theorem fnExactGraphOfUpto_row_tie : Rows.fnExactGraphOfUptoRow.laidByTextAt .later Tryz.pinned [.data, .data] true :=
  OpenClaim.laidByTextAt_later rfl rfl tie noOwnUnsafe
end Go.Proofs.YtfgckeoigkoflaaGreatDoor
