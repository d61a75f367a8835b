/- Two claims held against each other. -/
import Derived.Test.YtpninlangjfcfaaClA
import Derived.Laws.StructEq
namespace Go.Proofs.Ytpninlangjfcfaa
open Go.RowKit
set_option linter.unusedVariables false
namespace Cl
def clEq (a b : ClD) : Bool := a.inst == b.inst && a.step == b.step && a.user == b.user
theorem cl_under : Try.prog.underlying 44 = some (.struct (Try.prog.fieldsOf 44)) := by kernel_rfl
theorem cl_stood : Try.prog.stoodInHeld 44 = false := by kernel_rfl
theorem cl_guard : Try.prog.eqGuardType Try.prog.depth 44 = false := by kernel_rfl
set_option maxRecDepth 100000 in
theorem cl_fields : ∃ f0 f1 f2 : Field, (Try.prog.fieldsOf 44).toList = [f0, f1, f2] ∧ f0.name = "Inst" ∧ f0.type = 2 ∧ f0.offset = 0 ∧ f1.name = "Step" ∧ f1.type = 2 ∧ f1.offset = 1 ∧ f2.name = "User" ∧ f2.type = 2 ∧ f2.offset = 2 := ⟨_, _, _, rfl, rfl, rfl, rfl, rfl, rfl, rfl, rfl, rfl, rfl⟩
set_option maxRecDepth 100000 in
/-- Two claims held against each other. -/
theorem neqClaim (a b : ClD) (w : World) : Sem.run Try.prog (binOp .neq 44 (.agg #[.int .i64 a.inst, .int .i64 a.step, .int .i64 a.user]) (.agg #[.int .i64 b.inst, .int .i64 b.step, .int .i64 b.user])) w = .ok (.bool (!clEq a b)) w := by
  obtain ⟨f0, f1, f2, hf, h1, h2, h3, h4, h5, h6, h7, h8, h9⟩ := cl_fields
  rw [run_neq_struct, run_equalIn_struct w 9999 44 _ _ cl_under cl_stood, hf]
  have p0 : ∀ (x y z : Value) (w : World), (part 2 #[x, y, z] 0).run Try.prog w = .ok x w := fun x y z w => by kernel_rfl
  have p1 : ∀ (x y z : Value) (w : World), (part 2 #[x, y, z] 1).run Try.prog w = .ok y w := fun x y z w => by kernel_rfl
  have p2 : ∀ (x y z : Value) (w : World), (part 2 #[x, y, z] 2).run Try.prog w = .ok z w := fun x y z w => by kernel_rfl
  simp only [Op.eqFields, h1, h2, h3, h4, h5, h6, h7, h8, h9, Sem.run_bind, Sem.run_ite, p0, p1, p2, Result.andThen_ok, run_equalIn_int w 9998 2 _ _ _ _ Try.underlying2]
  rw [if_pos (show "Inst" ≠ "_" by decide), if_pos (show "Step" ≠ "_" by decide), if_pos (show "User" ≠ "_" by decide)]
  unfold clEq
  cases a.inst == b.inst <;> cases a.step == b.step <;> cases a.user == b.user <;> rfl
end Cl
end Go.Proofs.Ytpninlangjfcfaa
