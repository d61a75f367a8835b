/- Two nodes held against each other. -/
import Derived.Test.YtpninlangjfcfaaNd
import Derived.Laws.StructEq
namespace Go.Proofs.Ytpninlangjfcfaa
open Go.RowKit
set_option linter.unusedVariables false
namespace Nd
def nodeEq (a b : NodeD) : Bool := a.kind == b.kind && a.value == b.value && a.left == b.left && a.right == b.right
theorem nodeEq_self (a : NodeD) : nodeEq a a = true := by simp [nodeEq]
theorem nd_under : Try.prog.underlying 89 = some (.struct (Try.prog.fieldsOf 89)) := by kernel_rfl
theorem nd_stood : Try.prog.stoodInHeld 89 = false := by kernel_rfl
theorem nd_guard : Try.prog.eqGuardType Try.prog.depth 89 = false := by kernel_rfl
set_option maxRecDepth 100000 in
theorem nd_fields : ∃ f0 f1 f2 f3 : Field, (Try.prog.fieldsOf 89).toList = [f0, f1, f2, f3] ∧ f0.name = "Kind" ∧ f0.type = 2 ∧ f0.offset = 0 ∧ f1.name = "Value" ∧ f1.type = 2 ∧ f1.offset = 1 ∧ f2.name = "Left" ∧ f2.type = 2 ∧ f2.offset = 2 ∧ f3.name = "Right" ∧ f3.type = 2 ∧ f3.offset = 3 := ⟨_, _, _, _, rfl, rfl, rfl, rfl, rfl, rfl, rfl, rfl, rfl, rfl, rfl, rfl, rfl⟩
set_option maxRecDepth 100000 in
/-- Two nodes held against each other. -/
theorem neqNode (a b : NodeD) (w : World) : Sem.run Try.prog (binOp .neq 89 (.agg #[.int .i64 a.kind, .int .i64 a.value, .int .i64 a.left, .int .i64 a.right]) (.agg #[.int .i64 b.kind, .int .i64 b.value, .int .i64 b.left, .int .i64 b.right])) w = .ok (.bool (!nodeEq a b)) w := by
  obtain ⟨f0, f1, f2, f3, hf, h1, h2, h3, h4, h5, h6, h7, h8, h9, h10, h11, h12⟩ := nd_fields
  rw [run_neq_struct, run_equalIn_struct w 9999 89 _ _ nd_under nd_stood, hf]
  have p0 : ∀ (x y z u : Value) (w : World), (part 2 #[x, y, z, u] 0).run Try.prog w = .ok x w := fun x y z u w => by kernel_rfl
  have p1 : ∀ (x y z u : Value) (w : World), (part 2 #[x, y, z, u] 1).run Try.prog w = .ok y w := fun x y z u w => by kernel_rfl
  have p2 : ∀ (x y z u : Value) (w : World), (part 2 #[x, y, z, u] 2).run Try.prog w = .ok z w := fun x y z u w => by kernel_rfl
  have p3 : ∀ (x y z u : Value) (w : World), (part 2 #[x, y, z, u] 3).run Try.prog w = .ok u w := fun x y z u w => by kernel_rfl
  simp only [Op.eqFields, h1, h2, h3, h4, h5, h6, h7, h8, h9, h10, h11, h12, Sem.run_bind, Sem.run_ite, p0, p1, p2, p3, Result.andThen_ok, run_equalIn_int w 9998 2 _ _ _ _ Try.underlying2]
  rw [if_pos (show "Kind" ≠ "_" by decide), if_pos (show "Value" ≠ "_" by decide), if_pos (show "Left" ≠ "_" by decide), if_pos (show "Right" ≠ "_" by decide)]
  unfold nodeEq
  cases a.kind == b.kind <;> cases a.value == b.value <;> cases a.left == b.left <;> cases a.right == b.right <;> rfl
theorem below_drewN {B : Nat} {a w : World} (h : Below B a w) (n : Nat) : Below B a (w.drewN n) := ⟨h.os, h.tape, h.output, h.size, h.block⟩
end Nd
end Go.Proofs.Ytpninlangjfcfaa
