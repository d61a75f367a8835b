/- What the program's assertions of terms answer. -/
import Derived.Test.YtbojdlkibffcjaaDoorImE
namespace Go.Proofs.YtbojdlkibffcjaaDoor
open Go.RowKit
set_option linter.unusedVariables false
namespace Ex
open Nd (NodeD)
theorem asCC (v : Value) (w : World) : (Instr.typeAssert (.iface 123 v) 110 123 true).run Tryd.prog w = .ok (.tuple #[v, .bool true]) w := by kernel_rfl
theorem asCV (v : Value) (w : World) : (Instr.typeAssert (.iface 123 v) 110 124 true).run Tryd.prog w = .ok (.tuple #[.int .i64 0, .bool false]) w := by kernel_rfl
theorem asCN (v : Value) (w : World) : (Instr.typeAssert (.iface 123 v) 110 127 true).run Tryd.prog w = .ok (.tuple #[.agg #[.nilIface], .bool false]) w := by kernel_rfl
theorem asCP (v : Value) (w : World) : (Instr.typeAssert (.iface 123 v) 110 129 true).run Tryd.prog w = .ok (.tuple #[.agg #[.int .i64 0, .nilIface, .nilIface], .bool false]) w := by kernel_rfl
theorem asVC (v : Value) (w : World) : (Instr.typeAssert (.iface 124 v) 110 123 true).run Tryd.prog w = .ok (.tuple #[.int .i64 0, .bool false]) w := by kernel_rfl
theorem asVV (v : Value) (w : World) : (Instr.typeAssert (.iface 124 v) 110 124 true).run Tryd.prog w = .ok (.tuple #[v, .bool true]) w := by kernel_rfl
theorem asVN (v : Value) (w : World) : (Instr.typeAssert (.iface 124 v) 110 127 true).run Tryd.prog w = .ok (.tuple #[.agg #[.nilIface], .bool false]) w := by kernel_rfl
theorem asVP (v : Value) (w : World) : (Instr.typeAssert (.iface 124 v) 110 129 true).run Tryd.prog w = .ok (.tuple #[.agg #[.int .i64 0, .nilIface, .nilIface], .bool false]) w := by kernel_rfl
theorem asNC (v : Value) (w : World) : (Instr.typeAssert (.iface 127 v) 110 123 true).run Tryd.prog w = .ok (.tuple #[.int .i64 0, .bool false]) w := by kernel_rfl
theorem asNV (v : Value) (w : World) : (Instr.typeAssert (.iface 127 v) 110 124 true).run Tryd.prog w = .ok (.tuple #[.int .i64 0, .bool false]) w := by kernel_rfl
theorem asNN (v : Value) (w : World) : (Instr.typeAssert (.iface 127 v) 110 127 true).run Tryd.prog w = .ok (.tuple #[v, .bool true]) w := by kernel_rfl
theorem asNP (v : Value) (w : World) : (Instr.typeAssert (.iface 127 v) 110 129 true).run Tryd.prog w = .ok (.tuple #[.agg #[.int .i64 0, .nilIface, .nilIface], .bool false]) w := by kernel_rfl
theorem asPC (v : Value) (w : World) : (Instr.typeAssert (.iface 129 v) 110 123 true).run Tryd.prog w = .ok (.tuple #[.int .i64 0, .bool false]) w := by kernel_rfl
theorem asPV (v : Value) (w : World) : (Instr.typeAssert (.iface 129 v) 110 124 true).run Tryd.prog w = .ok (.tuple #[.int .i64 0, .bool false]) w := by kernel_rfl
theorem asPN (v : Value) (w : World) : (Instr.typeAssert (.iface 129 v) 110 127 true).run Tryd.prog w = .ok (.tuple #[.agg #[.nilIface], .bool false]) w := by kernel_rfl
theorem asPP (v : Value) (w : World) : (Instr.typeAssert (.iface 129 v) 110 129 true).run Tryd.prog w = .ok (.tuple #[v, .bool true]) w := by kernel_rfl
end Ex
end Go.Proofs.YtbojdlkibffcjaaDoor
