/- What the program's assertions of terms answer. -/
import Derived.Test.YtgghigfflpbjiaaGreatDoorImE
namespace Go.Proofs.YtgghigfflpbjiaaGreatDoor
open Go.RowKit
set_option linter.unusedVariables false
namespace Ex
open Nd (NodeD)
theorem asCC (v : Value) (w : World) : (Instr.typeAssert (.iface 176 v) 159 176 true).run Tryz.prog w = .ok (.tuple #[v, .bool true]) w := by kernel_rfl
theorem asCV (v : Value) (w : World) : (Instr.typeAssert (.iface 176 v) 159 177 true).run Tryz.prog w = .ok (.tuple #[.int .i64 0, .bool false]) w := by kernel_rfl
theorem asCN (v : Value) (w : World) : (Instr.typeAssert (.iface 176 v) 159 179 true).run Tryz.prog w = .ok (.tuple #[.agg #[.nilIface], .bool false]) w := by kernel_rfl
theorem asCP (v : Value) (w : World) : (Instr.typeAssert (.iface 176 v) 159 181 true).run Tryz.prog w = .ok (.tuple #[.agg #[.int .i64 0, .nilIface, .nilIface], .bool false]) w := by kernel_rfl
theorem asVC (v : Value) (w : World) : (Instr.typeAssert (.iface 177 v) 159 176 true).run Tryz.prog w = .ok (.tuple #[.int .i64 0, .bool false]) w := by kernel_rfl
theorem asVV (v : Value) (w : World) : (Instr.typeAssert (.iface 177 v) 159 177 true).run Tryz.prog w = .ok (.tuple #[v, .bool true]) w := by kernel_rfl
theorem asVN (v : Value) (w : World) : (Instr.typeAssert (.iface 177 v) 159 179 true).run Tryz.prog w = .ok (.tuple #[.agg #[.nilIface], .bool false]) w := by kernel_rfl
theorem asVP (v : Value) (w : World) : (Instr.typeAssert (.iface 177 v) 159 181 true).run Tryz.prog w = .ok (.tuple #[.agg #[.int .i64 0, .nilIface, .nilIface], .bool false]) w := by kernel_rfl
theorem asNC (v : Value) (w : World) : (Instr.typeAssert (.iface 179 v) 159 176 true).run Tryz.prog w = .ok (.tuple #[.int .i64 0, .bool false]) w := by kernel_rfl
theorem asNV (v : Value) (w : World) : (Instr.typeAssert (.iface 179 v) 159 177 true).run Tryz.prog w = .ok (.tuple #[.int .i64 0, .bool false]) w := by kernel_rfl
theorem asNN (v : Value) (w : World) : (Instr.typeAssert (.iface 179 v) 159 179 true).run Tryz.prog w = .ok (.tuple #[v, .bool true]) w := by kernel_rfl
theorem asNP (v : Value) (w : World) : (Instr.typeAssert (.iface 179 v) 159 181 true).run Tryz.prog w = .ok (.tuple #[.agg #[.int .i64 0, .nilIface, .nilIface], .bool false]) w := by kernel_rfl
theorem asPC (v : Value) (w : World) : (Instr.typeAssert (.iface 181 v) 159 176 true).run Tryz.prog w = .ok (.tuple #[.int .i64 0, .bool false]) w := by kernel_rfl
theorem asPV (v : Value) (w : World) : (Instr.typeAssert (.iface 181 v) 159 177 true).run Tryz.prog w = .ok (.tuple #[.int .i64 0, .bool false]) w := by kernel_rfl
theorem asPN (v : Value) (w : World) : (Instr.typeAssert (.iface 181 v) 159 179 true).run Tryz.prog w = .ok (.tuple #[.agg #[.nilIface], .bool false]) w := by kernel_rfl
theorem asPP (v : Value) (w : World) : (Instr.typeAssert (.iface 181 v) 159 181 true).run Tryz.prog w = .ok (.tuple #[v, .bool true]) w := by kernel_rfl
end Ex
end Go.Proofs.YtgghigfflpbjiaaGreatDoor
