/- What writeEscaped leaves, at this program: the builder holds behind what it held the byte as it is written in a value. Conditions: the table of entities lies as its initialiser lays it; there is room. -/
import Derived.Test.YtgghigfflpbjiaaGreatDoorJWriteProc10
import Derived.OpenShut
import Derived.LoopN
namespace Go.Proofs.YtgghigfflpbjiaaGreatDoor
open Go.Shelf Go.RowKit
set_option linter.unusedVariables false
namespace Esc
def entVals : List Value := [.string ⟨#[38, 108, 116, 59]⟩, .int .u8 60, .bool true, .string ⟨#[38, 103, 116, 59]⟩, .int .u8 62, .bool true, .string ⟨#[38, 97, 109, 112, 59]⟩, .int .u8 38, .bool true, .string ⟨#[38, 113, 117, 111, 116, 59]⟩, .int .u8 34, .bool true, .string ⟨#[38, 97, 112, 111, 115, 59]⟩, .int .u8 39, .bool false]
def Ent (w : World) : Prop := ∀ i : Nat, i < 15 → w.cell? ⟨2, i, none⟩ = entVals[i]?
def entArr : Array Value := #[.string ⟨#[38, 108, 116, 59]⟩, .int .u8 60, .bool true, .string ⟨#[38, 103, 116, 59]⟩, .int .u8 62, .bool true, .string ⟨#[38, 97, 109, 112, 59]⟩, .int .u8 38, .bool true, .string ⟨#[38, 113, 117, 111, 116, 59]⟩, .int .u8 34, .bool true, .string ⟨#[38, 97, 112, 111, 115, 59]⟩, .int .u8 39, .bool false]
theorem idx0 (w : World) : Sem.run Tryz.prog (Instr.index 206 (.agg entArr) (.int .i64 0)) w = .ok (.agg #[.string ⟨#[38, 108, 116, 59]⟩, .int .u8 60, .bool true]) w := by kernel_rfl
theorem idx1 (w : World) : Sem.run Tryz.prog (Instr.index 206 (.agg entArr) (.int .i64 1)) w = .ok (.agg #[.string ⟨#[38, 103, 116, 59]⟩, .int .u8 62, .bool true]) w := by kernel_rfl
theorem idx2 (w : World) : Sem.run Tryz.prog (Instr.index 206 (.agg entArr) (.int .i64 2)) w = .ok (.agg #[.string ⟨#[38, 97, 109, 112, 59]⟩, .int .u8 38, .bool true]) w := by kernel_rfl
theorem idx3 (w : World) : Sem.run Tryz.prog (Instr.index 206 (.agg entArr) (.int .i64 3)) w = .ok (.agg #[.string ⟨#[38, 113, 117, 111, 116, 59]⟩, .int .u8 34, .bool true]) w := by kernel_rfl
theorem idx4 (w : World) : Sem.run Tryz.prog (Instr.index 206 (.agg entArr) (.int .i64 4)) w = .ok (.agg #[.string ⟨#[38, 97, 112, 111, 115, 59]⟩, .int .u8 39, .bool false]) w := by kernel_rfl
set_option maxRecDepth 100000 in
set_option maxHeartbeats 1000000 in
theorem esc60 (B b : Nat) (bs : List Value) (w : World) (he : Ent w) (h : Lib.IsBuilderF 99 5 B b bs w) (hlen : bs.length + 6 ≤ 140737488355328) (hBw : B ≤ w.heap.size) :
    Calls Tryz.prog 125 #[.pointer (some ⟨b, 0, none⟩), .int .u8 60] w fun e w' => e = .returned (.tuple #[]) ∧ Lib.IsBuilderF 99 5 B b (bs ++ Lib.strCells ⟨#[38, 108, 116, 59]⟩) w' ∧ Below B w w' := by
  have e0 := he 0 (by decide); have e1 := he 1 (by decide); have e2 := he 2 (by decide); have e3 := he 3 (by decide); have e4 := he 4 (by decide)
  have e5 := he 5 (by decide); have e6 := he 6 (by decide); have e7 := he 7 (by decide); have e8 := he 8 (by decide); have e9 := he 9 (by decide)
  have e10 := he 10 (by decide); have e11 := he 11 (by decide); have e12 := he 12 (by decide); have e13 := he 13 (by decide); have e14 := he 14 (by decide)
  simp only [entVals, List.getElem?_cons_zero, List.getElem?_cons_succ] at e0 e1 e2 e3 e4 e5 e6 e7 e8 e9 e10 e11 e12 e13 e14
  clear he
  have i0 := idx0; have i1 := idx1; have i2 := idx2; have i3 := idx3; have i4 := idx4
  simp only [entArr] at i0 i1 i2 i3 i4
  go_enter Tryz.func125, Tryz.ntmps125
  go_wp2
  refine wp_loop_rounds 6 ?_
  rw [rounds_succ]
  go_wp2_with fail
  refine (Bld.writeString B b bs _ _ (h.alloc _) (by simp [ByteArray.size]; omega) (by simp; omega)).mono ?_
  rintro e w1 ⟨rfl, h1, hb1, hk1⟩
  go_wp2
  refine bodyPost_ret (v := .tuple #[]) (by simp [results, Tryz.results125, go_sem]) rfl ?_
  exact ⟨rfl, .inr h1, ((Below.refl B w).alloc (by first | exact hBw | (simp; omega)) _).trans hb1⟩
set_option maxRecDepth 100000 in
set_option maxHeartbeats 1000000 in
theorem esc62 (B b : Nat) (bs : List Value) (w : World) (he : Ent w) (h : Lib.IsBuilderF 99 5 B b bs w) (hlen : bs.length + 6 ≤ 140737488355328) (hBw : B ≤ w.heap.size) :
    Calls Tryz.prog 125 #[.pointer (some ⟨b, 0, none⟩), .int .u8 62] w fun e w' => e = .returned (.tuple #[]) ∧ Lib.IsBuilderF 99 5 B b (bs ++ Lib.strCells ⟨#[38, 103, 116, 59]⟩) w' ∧ Below B w w' := by
  have e0 := he 0 (by decide); have e1 := he 1 (by decide); have e2 := he 2 (by decide); have e3 := he 3 (by decide); have e4 := he 4 (by decide)
  have e5 := he 5 (by decide); have e6 := he 6 (by decide); have e7 := he 7 (by decide); have e8 := he 8 (by decide); have e9 := he 9 (by decide)
  have e10 := he 10 (by decide); have e11 := he 11 (by decide); have e12 := he 12 (by decide); have e13 := he 13 (by decide); have e14 := he 14 (by decide)
  simp only [entVals, List.getElem?_cons_zero, List.getElem?_cons_succ] at e0 e1 e2 e3 e4 e5 e6 e7 e8 e9 e10 e11 e12 e13 e14
  clear he
  have i0 := idx0; have i1 := idx1; have i2 := idx2; have i3 := idx3; have i4 := idx4
  simp only [entArr] at i0 i1 i2 i3 i4
  go_enter Tryz.func125, Tryz.ntmps125
  go_wp2
  refine wp_loop_rounds 6 ?_
  rw [rounds_succ]
  go_wp2_with fail
  rw [rounds_succ]
  go_wp2_with fail
  refine (Bld.writeString B b bs _ _ ((h.alloc _).alloc _) (by simp [ByteArray.size]; omega) (by simp; omega)).mono ?_
  rintro e w1 ⟨rfl, h1, hb1, hk1⟩
  go_wp2
  refine bodyPost_ret (v := .tuple #[]) (by simp [results, Tryz.results125, go_sem]) rfl ?_
  exact ⟨rfl, .inr h1, (((Below.refl B w).alloc (by first | exact hBw | (simp; omega)) _).alloc (by first | exact hBw | (simp; omega)) _).trans hb1⟩
set_option maxRecDepth 100000 in
set_option maxHeartbeats 1000000 in
theorem esc38 (B b : Nat) (bs : List Value) (w : World) (he : Ent w) (h : Lib.IsBuilderF 99 5 B b bs w) (hlen : bs.length + 6 ≤ 140737488355328) (hBw : B ≤ w.heap.size) :
    Calls Tryz.prog 125 #[.pointer (some ⟨b, 0, none⟩), .int .u8 38] w fun e w' => e = .returned (.tuple #[]) ∧ Lib.IsBuilderF 99 5 B b (bs ++ Lib.strCells ⟨#[38, 97, 109, 112, 59]⟩) w' ∧ Below B w w' := by
  have e0 := he 0 (by decide); have e1 := he 1 (by decide); have e2 := he 2 (by decide); have e3 := he 3 (by decide); have e4 := he 4 (by decide)
  have e5 := he 5 (by decide); have e6 := he 6 (by decide); have e7 := he 7 (by decide); have e8 := he 8 (by decide); have e9 := he 9 (by decide)
  have e10 := he 10 (by decide); have e11 := he 11 (by decide); have e12 := he 12 (by decide); have e13 := he 13 (by decide); have e14 := he 14 (by decide)
  simp only [entVals, List.getElem?_cons_zero, List.getElem?_cons_succ] at e0 e1 e2 e3 e4 e5 e6 e7 e8 e9 e10 e11 e12 e13 e14
  clear he
  have i0 := idx0; have i1 := idx1; have i2 := idx2; have i3 := idx3; have i4 := idx4
  simp only [entArr] at i0 i1 i2 i3 i4
  go_enter Tryz.func125, Tryz.ntmps125
  go_wp2
  refine wp_loop_rounds 6 ?_
  rw [rounds_succ]
  go_wp2_with fail
  rw [rounds_succ]
  go_wp2_with fail
  rw [rounds_succ]
  go_wp2_with fail
  refine (Bld.writeString B b bs _ _ (((h.alloc _).alloc _).alloc _) (by simp [ByteArray.size]; omega) (by simp; omega)).mono ?_
  rintro e w1 ⟨rfl, h1, hb1, hk1⟩
  go_wp2
  refine bodyPost_ret (v := .tuple #[]) (by simp [results, Tryz.results125, go_sem]) rfl ?_
  exact ⟨rfl, .inr h1, ((((Below.refl B w).alloc (by first | exact hBw | (simp; omega)) _).alloc (by first | exact hBw | (simp; omega)) _).alloc (by first | exact hBw | (simp; omega)) _).trans hb1⟩
set_option maxRecDepth 100000 in
set_option maxHeartbeats 1000000 in
theorem esc34 (B b : Nat) (bs : List Value) (w : World) (he : Ent w) (h : Lib.IsBuilderF 99 5 B b bs w) (hlen : bs.length + 6 ≤ 140737488355328) (hBw : B ≤ w.heap.size) :
    Calls Tryz.prog 125 #[.pointer (some ⟨b, 0, none⟩), .int .u8 34] w fun e w' => e = .returned (.tuple #[]) ∧ Lib.IsBuilderF 99 5 B b (bs ++ Lib.strCells ⟨#[38, 113, 117, 111, 116, 59]⟩) w' ∧ Below B w w' := by
  have e0 := he 0 (by decide); have e1 := he 1 (by decide); have e2 := he 2 (by decide); have e3 := he 3 (by decide); have e4 := he 4 (by decide)
  have e5 := he 5 (by decide); have e6 := he 6 (by decide); have e7 := he 7 (by decide); have e8 := he 8 (by decide); have e9 := he 9 (by decide)
  have e10 := he 10 (by decide); have e11 := he 11 (by decide); have e12 := he 12 (by decide); have e13 := he 13 (by decide); have e14 := he 14 (by decide)
  simp only [entVals, List.getElem?_cons_zero, List.getElem?_cons_succ] at e0 e1 e2 e3 e4 e5 e6 e7 e8 e9 e10 e11 e12 e13 e14
  clear he
  have i0 := idx0; have i1 := idx1; have i2 := idx2; have i3 := idx3; have i4 := idx4
  simp only [entArr] at i0 i1 i2 i3 i4
  go_enter Tryz.func125, Tryz.ntmps125
  go_wp2
  refine wp_loop_rounds 6 ?_
  rw [rounds_succ]
  go_wp2_with fail
  rw [rounds_succ]
  go_wp2_with fail
  rw [rounds_succ]
  go_wp2_with fail
  rw [rounds_succ]
  go_wp2_with fail
  refine (Bld.writeString B b bs _ _ ((((h.alloc _).alloc _).alloc _).alloc _) (by simp [ByteArray.size]; omega) (by simp; omega)).mono ?_
  rintro e w1 ⟨rfl, h1, hb1, hk1⟩
  go_wp2
  refine bodyPost_ret (v := .tuple #[]) (by simp [results, Tryz.results125, go_sem]) rfl ?_
  exact ⟨rfl, .inr h1, (((((Below.refl B w).alloc (by first | exact hBw | (simp; omega)) _).alloc (by first | exact hBw | (simp; omega)) _).alloc (by first | exact hBw | (simp; omega)) _).alloc (by first | exact hBw | (simp; omega)) _).trans hb1⟩
set_option maxRecDepth 100000 in
set_option maxHeartbeats 2000000 in
theorem escOther (B b : Nat) (bs : List Value) (c : Int) (w : World) (he : Ent w) (h : Lib.IsBuilderF 99 5 B b bs w) (hlen : bs.length + 6 ≤ 140737488355328) (hBw : B ≤ w.heap.size) (n1 : ((60 : Int) == c) = false) (n2 : ((62 : Int) == c) = false) (n3 : ((38 : Int) == c) = false) (n4 : ((34 : Int) == c) = false) :
    Calls Tryz.prog 125 #[.pointer (some ⟨b, 0, none⟩), .int .u8 c] w fun e w' => e = .returned (.tuple #[]) ∧ Lib.IsBuilderF 99 5 B b (bs ++ [.int .u8 c]) w' ∧ Below B w w' := by
  have e0 := he 0 (by decide); have e1 := he 1 (by decide); have e2 := he 2 (by decide); have e3 := he 3 (by decide); have e4 := he 4 (by decide)
  have e5 := he 5 (by decide); have e6 := he 6 (by decide); have e7 := he 7 (by decide); have e8 := he 8 (by decide); have e9 := he 9 (by decide)
  have e10 := he 10 (by decide); have e11 := he 11 (by decide); have e12 := he 12 (by decide); have e13 := he 13 (by decide); have e14 := he 14 (by decide)
  simp only [entVals, List.getElem?_cons_zero, List.getElem?_cons_succ] at e0 e1 e2 e3 e4 e5 e6 e7 e8 e9 e10 e11 e12 e13 e14
  clear he
  have i0 := idx0; have i1 := idx1; have i2 := idx2; have i3 := idx3; have i4 := idx4
  simp only [entArr] at i0 i1 i2 i3 i4
  go_enter Tryz.func125, Tryz.ntmps125
  go_wp2
  refine wp_loop_rounds 6 ?_
  rw [rounds_succ]
  go_wp2_with fail
  rw [rounds_succ]
  go_wp2_with fail
  rw [rounds_succ]
  go_wp2_with fail
  rw [rounds_succ]
  go_wp2_with fail
  rw [rounds_succ]
  go_wp2_with fail
  rw [rounds_succ]
  go_wp2_with fail
  refine (Bld.writeByte B b bs _ _ (((((h.alloc _).alloc _).alloc _).alloc _).alloc _) (by omega) (by simp; omega)).mono ?_
  rintro e w1 ⟨rfl, h1, hb1, hk1⟩
  go_wp2
  go_end0
  exact ⟨rfl, .inr h1, ((((((Below.refl B w).alloc (by first | exact hBw | (simp; omega)) _).alloc (by first | exact hBw | (simp; omega)) _).alloc (by first | exact hBw | (simp; omega)) _).alloc (by first | exact hBw | (simp; omega)) _).alloc (by first | exact hBw | (simp; omega)) _).trans hb1⟩

/-- How a byte is written in a value. -/
def esc (c : UInt8) : List UInt8 := if c.toNat = 60 then [38, 108, 116, 59] else if c.toNat = 62 then [38, 103, 116, 59] else if c.toNat = 38 then [38, 97, 109, 112, 59] else if c.toNat = 34 then [38, 113, 117, 111, 116, 59] else [c]
def escAll (l : List UInt8) : List UInt8 := l.flatMap esc
theorem esc_len (c : UInt8) : (esc c).length ≤ 6 := by unfold esc; repeat (first | split | simp)
theorem escAll_len (l : List UInt8) : (escAll l).length ≤ 6 * l.length := by
  induction l with
  | nil => simp [escAll]
  | cons c r ih => have := esc_len c; simp only [escAll, List.flatMap_cons, List.length_append, List.length_cons] at *; omega
theorem writeEsc (B b : Nat) (l : List UInt8) (c : UInt8) (w : World) (he : Ent w) (h : Lib.IsBuilderF 99 5 B b (Lib.byteCells l) w) (hlen : l.length + 6 ≤ 140737488355328) (hBw : B ≤ w.heap.size) :
    Calls Tryz.prog 125 #[.pointer (some ⟨b, 0, none⟩), .int .u8 c.toNat] w fun e w' => e = .returned (.tuple #[]) ∧ Lib.IsBuilderF 99 5 B b (Lib.byteCells (l ++ esc c)) w' ∧ Below B w w' := by
  have hl : (Lib.byteCells l).length = l.length := by simp [Lib.byteCells]
  by_cases h60 : c.toNat = 60
  · rw [h60, show esc c = [38, 108, 116, 59] from by simp [esc, h60], Lib.byteCells_append]
    exact esc60 B b _ w he h (by omega) hBw
  by_cases h62 : c.toNat = 62
  · rw [h62, show esc c = [38, 103, 116, 59] from by simp [esc, h62], Lib.byteCells_append]
    exact esc62 B b _ w he h (by omega) hBw
  by_cases h38 : c.toNat = 38
  · rw [h38, show esc c = [38, 97, 109, 112, 59] from by simp [esc, h38], Lib.byteCells_append]
    exact esc38 B b _ w he h (by omega) hBw
  by_cases h34 : c.toNat = 34
  · rw [h34, show esc c = [38, 113, 117, 111, 116, 59] from by simp [esc, h34], Lib.byteCells_append]
    exact esc34 B b _ w he h (by omega) hBw
  · rw [show esc c = [c] from by simp [esc, h60, h62, h38, h34], Lib.byteCells_append]
    exact escOther B b _ _ w he h (by omega) hBw (beq_eq_false_iff_ne.2 (by omega)) (beq_eq_false_iff_ne.2 (by omega)) (beq_eq_false_iff_ne.2 (by omega)) (beq_eq_false_iff_ne.2 (by omega))
end Esc
end Go.Proofs.YtgghigfflpbjiaaGreatDoor
