/- What the program's assertions of terms answer. -/
import Derived.Test.YtalplnbkijmahaiImE
namespace Go.Proofs.Ytalplnbkijmahai
open Go.RowKit
set_option linter.unusedVariables false
namespace Ex
open Nd (NodeD)
theorem asCC (v : Value) (w : World) : (Instr.typeAssert (.iface 71 v) 52 71 true).run Try.prog w = .ok (.tuple #[v, .bool true]) w := by kernel_rfl
theorem asCV (v : Value) (w : World) : (Instr.typeAssert (.iface 71 v) 52 72 true).run Try.prog w = .ok (.tuple #[.int .i64 0, .bool false]) w := by kernel_rfl
theorem asCN (v : Value) (w : World) : (Instr.typeAssert (.iface 71 v) 52 74 true).run Try.prog w = .ok (.tuple #[.agg #[.nilIface], .bool false]) w := by kernel_rfl
theorem asCP (v : Value) (w : World) : (Instr.typeAssert (.iface 71 v) 52 77 true).run Try.prog w = .ok (.tuple #[.agg #[.int .i64 0, .nilIface, .nilIface], .bool false]) w := by kernel_rfl
theorem asVC (v : Value) (w : World) : (Instr.typeAssert (.iface 72 v) 52 71 true).run Try.prog w = .ok (.tuple #[.int .i64 0, .bool false]) w := by kernel_rfl
theorem asVV (v : Value) (w : World) : (Instr.typeAssert (.iface 72 v) 52 72 true).run Try.prog w = .ok (.tuple #[v, .bool true]) w := by kernel_rfl
theorem asVN (v : Value) (w : World) : (Instr.typeAssert (.iface 72 v) 52 74 true).run Try.prog w = .ok (.tuple #[.agg #[.nilIface], .bool false]) w := by kernel_rfl
theorem asVP (v : Value) (w : World) : (Instr.typeAssert (.iface 72 v) 52 77 true).run Try.prog w = .ok (.tuple #[.agg #[.int .i64 0, .nilIface, .nilIface], .bool false]) w := by kernel_rfl
theorem asNC (v : Value) (w : World) : (Instr.typeAssert (.iface 74 v) 52 71 true).run Try.prog w = .ok (.tuple #[.int .i64 0, .bool false]) w := by kernel_rfl
theorem asNV (v : Value) (w : World) : (Instr.typeAssert (.iface 74 v) 52 72 true).run Try.prog w = .ok (.tuple #[.int .i64 0, .bool false]) w := by kernel_rfl
theorem asNN (v : Value) (w : World) : (Instr.typeAssert (.iface 74 v) 52 74 true).run Try.prog w = .ok (.tuple #[v, .bool true]) w := by kernel_rfl
theorem asNP (v : Value) (w : World) : (Instr.typeAssert (.iface 74 v) 52 77 true).run Try.prog w = .ok (.tuple #[.agg #[.int .i64 0, .nilIface, .nilIface], .bool false]) w := by kernel_rfl
theorem asPC (v : Value) (w : World) : (Instr.typeAssert (.iface 77 v) 52 71 true).run Try.prog w = .ok (.tuple #[.int .i64 0, .bool false]) w := by kernel_rfl
theorem asPV (v : Value) (w : World) : (Instr.typeAssert (.iface 77 v) 52 72 true).run Try.prog w = .ok (.tuple #[.int .i64 0, .bool false]) w := by kernel_rfl
theorem asPN (v : Value) (w : World) : (Instr.typeAssert (.iface 77 v) 52 74 true).run Try.prog w = .ok (.tuple #[.agg #[.nilIface], .bool false]) w := by kernel_rfl
theorem asPP (v : Value) (w : World) : (Instr.typeAssert (.iface 77 v) 52 77 true).run Try.prog w = .ok (.tuple #[v, .bool true]) w := by kernel_rfl
end Ex
end Go.Proofs.Ytalplnbkijmahai
