/- Laid together: Esc, Shelf. -/
import Derived.Test.YtahkpgffoiaeiaaGreatDoorJProcOf9
import Derived.OpenShut
import Derived.LoopN
import Derived.Shelf.Strings.Builder1
import Derived.Shelf.Strings.Trim
import Derived.Shelf.Small.Utf8
import Derived.Shelf.Small.Strs
import Derived.Shelf.Strings.BuilderF
import Derived.Shelf.Strings.BuilderK
import Derived.Shelf.LaysM
import Derived.Shelf.Strconv.Clone
import Derived.Shelf.Strings.Search1
import Derived.Shelf.Strings.Runes
import Derived.Shelf.Strings.AsciiSet
import Derived.Shelf.Unicode.DecodeSlow
import Derived.Shelf.Strings.BuilderCap
import Derived.Test.YtahkpgffoiaeiaaGreatDoorProg
/- What writeEscaped leaves, at this program: the builder holds behind what it held the byte as it is written in a value. Conditions: the table of entities lies as its initialiser lays it; there is room. -/
namespace Go.Proofs.YtahkpgffoiaeiaaGreatDoor
open Go.Shelf Go.RowKit
set_option linter.unusedVariables false
namespace Esc
def entVals : List Value := [.string ⟨#[38, 108, 116, 59]⟩, .int .u8 60, .bool true, .string ⟨#[38, 103, 116, 59]⟩, .int .u8 62, .bool true, .string ⟨#[38, 97, 109, 112, 59]⟩, .int .u8 38, .bool true, .string ⟨#[38, 113, 117, 111, 116, 59]⟩, .int .u8 34, .bool true, .string ⟨#[38, 97, 112, 111, 115, 59]⟩, .int .u8 39, .bool false]
def Ent (w : World) : Prop := ∀ i : Nat, i < 15 → w.cell? ⟨2, i, none⟩ = entVals[i]?
def entArr : Array Value := #[.string ⟨#[38, 108, 116, 59]⟩, .int .u8 60, .bool true, .string ⟨#[38, 103, 116, 59]⟩, .int .u8 62, .bool true, .string ⟨#[38, 97, 109, 112, 59]⟩, .int .u8 38, .bool true, .string ⟨#[38, 113, 117, 111, 116, 59]⟩, .int .u8 34, .bool true, .string ⟨#[38, 97, 112, 111, 115, 59]⟩, .int .u8 39, .bool false]
theorem idx0 (w : World) : Sem.run Tryz.prog (Instr.index 217 (.agg entArr) (.int .i64 0)) w = .ok (.agg #[.string ⟨#[38, 108, 116, 59]⟩, .int .u8 60, .bool true]) w := by kernel_rfl
theorem idx1 (w : World) : Sem.run Tryz.prog (Instr.index 217 (.agg entArr) (.int .i64 1)) w = .ok (.agg #[.string ⟨#[38, 103, 116, 59]⟩, .int .u8 62, .bool true]) w := by kernel_rfl
theorem idx2 (w : World) : Sem.run Tryz.prog (Instr.index 217 (.agg entArr) (.int .i64 2)) w = .ok (.agg #[.string ⟨#[38, 97, 109, 112, 59]⟩, .int .u8 38, .bool true]) w := by kernel_rfl
theorem idx3 (w : World) : Sem.run Tryz.prog (Instr.index 217 (.agg entArr) (.int .i64 3)) w = .ok (.agg #[.string ⟨#[38, 113, 117, 111, 116, 59]⟩, .int .u8 34, .bool true]) w := by kernel_rfl
theorem idx4 (w : World) : Sem.run Tryz.prog (Instr.index 217 (.agg entArr) (.int .i64 4)) w = .ok (.agg #[.string ⟨#[38, 97, 112, 111, 115, 59]⟩, .int .u8 39, .bool false]) w := by kernel_rfl
set_option maxRecDepth 100000 in
set_option maxHeartbeats 1000000 in
theorem esc60 (B b : Nat) (bs : List Value) (w : World) (he : Ent w) (h : Lib.IsBuilderF 200 5 B b bs w) (hlen : bs.length + 6 ≤ 140737488355328) (hBw : B ≤ w.heap.size) :
    Calls Tryz.prog 115 #[.pointer (some ⟨b, 0, none⟩), .int .u8 60] w fun e w' => e = .returned (.tuple #[]) ∧ Lib.IsBuilderF 200 5 B b (bs ++ Lib.strCells ⟨#[38, 108, 116, 59]⟩) w' ∧ Below B w w' := by
  have e0 := he 0 (by decide); have e1 := he 1 (by decide); have e2 := he 2 (by decide); have e3 := he 3 (by decide); have e4 := he 4 (by decide)
  have e5 := he 5 (by decide); have e6 := he 6 (by decide); have e7 := he 7 (by decide); have e8 := he 8 (by decide); have e9 := he 9 (by decide)
  have e10 := he 10 (by decide); have e11 := he 11 (by decide); have e12 := he 12 (by decide); have e13 := he 13 (by decide); have e14 := he 14 (by decide)
  simp only [entVals, List.getElem?_cons_zero, List.getElem?_cons_succ] at e0 e1 e2 e3 e4 e5 e6 e7 e8 e9 e10 e11 e12 e13 e14
  clear he
  have i0 := idx0; have i1 := idx1; have i2 := idx2; have i3 := idx3; have i4 := idx4
  simp only [entArr] at i0 i1 i2 i3 i4
  go_enter Tryz.func115, Tryz.ntmps115
  go_wp2
  refine wp_loop_rounds 6 ?_
  rw [rounds_succ]
  go_wp2_with fail
  refine (Bld.writeString B b bs _ _ (h.alloc _) (by simp [ByteArray.size]; omega) (by simp; omega)).mono ?_
  rintro e w1 ⟨rfl, h1, hb1, hk1⟩
  go_wp2
  refine bodyPost_ret (v := .tuple #[]) (by simp [results, Tryz.results115, go_sem]) rfl ?_
  exact ⟨rfl, .inr h1, ((Below.refl B w).alloc (by first | exact hBw | (simp; omega)) _).trans hb1⟩
set_option maxRecDepth 100000 in
set_option maxHeartbeats 1000000 in
theorem esc62 (B b : Nat) (bs : List Value) (w : World) (he : Ent w) (h : Lib.IsBuilderF 200 5 B b bs w) (hlen : bs.length + 6 ≤ 140737488355328) (hBw : B ≤ w.heap.size) :
    Calls Tryz.prog 115 #[.pointer (some ⟨b, 0, none⟩), .int .u8 62] w fun e w' => e = .returned (.tuple #[]) ∧ Lib.IsBuilderF 200 5 B b (bs ++ Lib.strCells ⟨#[38, 103, 116, 59]⟩) w' ∧ Below B w w' := by
  have e0 := he 0 (by decide); have e1 := he 1 (by decide); have e2 := he 2 (by decide); have e3 := he 3 (by decide); have e4 := he 4 (by decide)
  have e5 := he 5 (by decide); have e6 := he 6 (by decide); have e7 := he 7 (by decide); have e8 := he 8 (by decide); have e9 := he 9 (by decide)
  have e10 := he 10 (by decide); have e11 := he 11 (by decide); have e12 := he 12 (by decide); have e13 := he 13 (by decide); have e14 := he 14 (by decide)
  simp only [entVals, List.getElem?_cons_zero, List.getElem?_cons_succ] at e0 e1 e2 e3 e4 e5 e6 e7 e8 e9 e10 e11 e12 e13 e14
  clear he
  have i0 := idx0; have i1 := idx1; have i2 := idx2; have i3 := idx3; have i4 := idx4
  simp only [entArr] at i0 i1 i2 i3 i4
  go_enter Tryz.func115, Tryz.ntmps115
  go_wp2
  refine wp_loop_rounds 6 ?_
  rw [rounds_succ]
  go_wp2_with fail
  rw [rounds_succ]
  go_wp2_with fail
  refine (Bld.writeString B b bs _ _ ((h.alloc _).alloc _) (by simp [ByteArray.size]; omega) (by simp; omega)).mono ?_
  rintro e w1 ⟨rfl, h1, hb1, hk1⟩
  go_wp2
  refine bodyPost_ret (v := .tuple #[]) (by simp [results, Tryz.results115, go_sem]) rfl ?_
  exact ⟨rfl, .inr h1, (((Below.refl B w).alloc (by first | exact hBw | (simp; omega)) _).alloc (by first | exact hBw | (simp; omega)) _).trans hb1⟩
set_option maxRecDepth 100000 in
set_option maxHeartbeats 1000000 in
theorem esc38 (B b : Nat) (bs : List Value) (w : World) (he : Ent w) (h : Lib.IsBuilderF 200 5 B b bs w) (hlen : bs.length + 6 ≤ 140737488355328) (hBw : B ≤ w.heap.size) :
    Calls Tryz.prog 115 #[.pointer (some ⟨b, 0, none⟩), .int .u8 38] w fun e w' => e = .returned (.tuple #[]) ∧ Lib.IsBuilderF 200 5 B b (bs ++ Lib.strCells ⟨#[38, 97, 109, 112, 59]⟩) w' ∧ Below B w w' := by
  have e0 := he 0 (by decide); have e1 := he 1 (by decide); have e2 := he 2 (by decide); have e3 := he 3 (by decide); have e4 := he 4 (by decide)
  have e5 := he 5 (by decide); have e6 := he 6 (by decide); have e7 := he 7 (by decide); have e8 := he 8 (by decide); have e9 := he 9 (by decide)
  have e10 := he 10 (by decide); have e11 := he 11 (by decide); have e12 := he 12 (by decide); have e13 := he 13 (by decide); have e14 := he 14 (by decide)
  simp only [entVals, List.getElem?_cons_zero, List.getElem?_cons_succ] at e0 e1 e2 e3 e4 e5 e6 e7 e8 e9 e10 e11 e12 e13 e14
  clear he
  have i0 := idx0; have i1 := idx1; have i2 := idx2; have i3 := idx3; have i4 := idx4
  simp only [entArr] at i0 i1 i2 i3 i4
  go_enter Tryz.func115, Tryz.ntmps115
  go_wp2
  refine wp_loop_rounds 6 ?_
  rw [rounds_succ]
  go_wp2_with fail
  rw [rounds_succ]
  go_wp2_with fail
  rw [rounds_succ]
  go_wp2_with fail
  refine (Bld.writeString B b bs _ _ (((h.alloc _).alloc _).alloc _) (by simp [ByteArray.size]; omega) (by simp; omega)).mono ?_
  rintro e w1 ⟨rfl, h1, hb1, hk1⟩
  go_wp2
  refine bodyPost_ret (v := .tuple #[]) (by simp [results, Tryz.results115, go_sem]) rfl ?_
  exact ⟨rfl, .inr h1, ((((Below.refl B w).alloc (by first | exact hBw | (simp; omega)) _).alloc (by first | exact hBw | (simp; omega)) _).alloc (by first | exact hBw | (simp; omega)) _).trans hb1⟩
set_option maxRecDepth 100000 in
set_option maxHeartbeats 1000000 in
theorem esc34 (B b : Nat) (bs : List Value) (w : World) (he : Ent w) (h : Lib.IsBuilderF 200 5 B b bs w) (hlen : bs.length + 6 ≤ 140737488355328) (hBw : B ≤ w.heap.size) :
    Calls Tryz.prog 115 #[.pointer (some ⟨b, 0, none⟩), .int .u8 34] w fun e w' => e = .returned (.tuple #[]) ∧ Lib.IsBuilderF 200 5 B b (bs ++ Lib.strCells ⟨#[38, 113, 117, 111, 116, 59]⟩) w' ∧ Below B w w' := by
  have e0 := he 0 (by decide); have e1 := he 1 (by decide); have e2 := he 2 (by decide); have e3 := he 3 (by decide); have e4 := he 4 (by decide)
  have e5 := he 5 (by decide); have e6 := he 6 (by decide); have e7 := he 7 (by decide); have e8 := he 8 (by decide); have e9 := he 9 (by decide)
  have e10 := he 10 (by decide); have e11 := he 11 (by decide); have e12 := he 12 (by decide); have e13 := he 13 (by decide); have e14 := he 14 (by decide)
  simp only [entVals, List.getElem?_cons_zero, List.getElem?_cons_succ] at e0 e1 e2 e3 e4 e5 e6 e7 e8 e9 e10 e11 e12 e13 e14
  clear he
  have i0 := idx0; have i1 := idx1; have i2 := idx2; have i3 := idx3; have i4 := idx4
  simp only [entArr] at i0 i1 i2 i3 i4
  go_enter Tryz.func115, Tryz.ntmps115
  go_wp2
  refine wp_loop_rounds 6 ?_
  rw [rounds_succ]
  go_wp2_with fail
  rw [rounds_succ]
  go_wp2_with fail
  rw [rounds_succ]
  go_wp2_with fail
  rw [rounds_succ]
  go_wp2_with fail
  refine (Bld.writeString B b bs _ _ ((((h.alloc _).alloc _).alloc _).alloc _) (by simp [ByteArray.size]; omega) (by simp; omega)).mono ?_
  rintro e w1 ⟨rfl, h1, hb1, hk1⟩
  go_wp2
  refine bodyPost_ret (v := .tuple #[]) (by simp [results, Tryz.results115, go_sem]) rfl ?_
  exact ⟨rfl, .inr h1, (((((Below.refl B w).alloc (by first | exact hBw | (simp; omega)) _).alloc (by first | exact hBw | (simp; omega)) _).alloc (by first | exact hBw | (simp; omega)) _).alloc (by first | exact hBw | (simp; omega)) _).trans hb1⟩
set_option maxRecDepth 100000 in
set_option maxHeartbeats 2000000 in
theorem escOther (B b : Nat) (bs : List Value) (c : Int) (w : World) (he : Ent w) (h : Lib.IsBuilderF 200 5 B b bs w) (hlen : bs.length + 6 ≤ 140737488355328) (hBw : B ≤ w.heap.size) (n1 : ((60 : Int) == c) = false) (n2 : ((62 : Int) == c) = false) (n3 : ((38 : Int) == c) = false) (n4 : ((34 : Int) == c) = false) :
    Calls Tryz.prog 115 #[.pointer (some ⟨b, 0, none⟩), .int .u8 c] w fun e w' => e = .returned (.tuple #[]) ∧ Lib.IsBuilderF 200 5 B b (bs ++ [.int .u8 c]) w' ∧ Below B w w' := by
  have e0 := he 0 (by decide); have e1 := he 1 (by decide); have e2 := he 2 (by decide); have e3 := he 3 (by decide); have e4 := he 4 (by decide)
  have e5 := he 5 (by decide); have e6 := he 6 (by decide); have e7 := he 7 (by decide); have e8 := he 8 (by decide); have e9 := he 9 (by decide)
  have e10 := he 10 (by decide); have e11 := he 11 (by decide); have e12 := he 12 (by decide); have e13 := he 13 (by decide); have e14 := he 14 (by decide)
  simp only [entVals, List.getElem?_cons_zero, List.getElem?_cons_succ] at e0 e1 e2 e3 e4 e5 e6 e7 e8 e9 e10 e11 e12 e13 e14
  clear he
  have i0 := idx0; have i1 := idx1; have i2 := idx2; have i3 := idx3; have i4 := idx4
  simp only [entArr] at i0 i1 i2 i3 i4
  go_enter Tryz.func115, Tryz.ntmps115
  go_wp2
  refine wp_loop_rounds 6 ?_
  rw [rounds_succ]
  go_wp2_with fail
  rw [rounds_succ]
  go_wp2_with fail
  rw [rounds_succ]
  go_wp2_with fail
  rw [rounds_succ]
  go_wp2_with fail
  rw [rounds_succ]
  go_wp2_with fail
  rw [rounds_succ]
  go_wp2_with fail
  refine (Bld.writeByte B b bs _ _ (((((h.alloc _).alloc _).alloc _).alloc _).alloc _) (by omega) (by simp; omega)).mono ?_
  rintro e w1 ⟨rfl, h1, hb1, hk1⟩
  go_wp2
  go_end0
  exact ⟨rfl, .inr h1, ((((((Below.refl B w).alloc (by first | exact hBw | (simp; omega)) _).alloc (by first | exact hBw | (simp; omega)) _).alloc (by first | exact hBw | (simp; omega)) _).alloc (by first | exact hBw | (simp; omega)) _).alloc (by first | exact hBw | (simp; omega)) _).trans hb1⟩

/-- How a byte is written in a value. -/
def esc (c : UInt8) : List UInt8 := if c.toNat = 60 then [38, 108, 116, 59] else if c.toNat = 62 then [38, 103, 116, 59] else if c.toNat = 38 then [38, 97, 109, 112, 59] else if c.toNat = 34 then [38, 113, 117, 111, 116, 59] else [c]
def escAll (l : List UInt8) : List UInt8 := l.flatMap esc
theorem esc_len (c : UInt8) : (esc c).length ≤ 6 := by unfold esc; repeat (first | split | simp)
theorem escAll_len (l : List UInt8) : (escAll l).length ≤ 6 * l.length := by
  induction l with
  | nil => simp [escAll]
  | cons c r ih => have := esc_len c; simp only [escAll, List.flatMap_cons, List.length_append, List.length_cons] at *; omega
theorem writeEsc (B b : Nat) (l : List UInt8) (c : UInt8) (w : World) (he : Ent w) (h : Lib.IsBuilderF 200 5 B b (Lib.byteCells l) w) (hlen : l.length + 6 ≤ 140737488355328) (hBw : B ≤ w.heap.size) :
    Calls Tryz.prog 115 #[.pointer (some ⟨b, 0, none⟩), .int .u8 c.toNat] w fun e w' => e = .returned (.tuple #[]) ∧ Lib.IsBuilderF 200 5 B b (Lib.byteCells (l ++ esc c)) w' ∧ Below B w w' := by
  have hl : (Lib.byteCells l).length = l.length := by simp [Lib.byteCells]
  by_cases h60 : c.toNat = 60
  · rw [h60, show esc c = [38, 108, 116, 59] from by simp [esc, h60], Lib.byteCells_append]
    exact esc60 B b _ w he h (by omega) hBw
  by_cases h62 : c.toNat = 62
  · rw [h62, show esc c = [38, 103, 116, 59] from by simp [esc, h62], Lib.byteCells_append]
    exact esc62 B b _ w he h (by omega) hBw
  by_cases h38 : c.toNat = 38
  · rw [h38, show esc c = [38, 97, 109, 112, 59] from by simp [esc, h38], Lib.byteCells_append]
    exact esc38 B b _ w he h (by omega) hBw
  by_cases h34 : c.toNat = 34
  · rw [h34, show esc c = [38, 113, 117, 111, 116, 59] from by simp [esc, h34], Lib.byteCells_append]
    exact esc34 B b _ w he h (by omega) hBw
  · rw [show esc c = [c] from by simp [esc, h60, h62, h38, h34], Lib.byteCells_append]
    exact escOther B b _ _ w he h (by omega) hBw (beq_eq_false_iff_ne.2 (by omega)) (beq_eq_false_iff_ne.2 (by omega)) (beq_eq_false_iff_ne.2 (by omega)) (beq_eq_false_iff_ne.2 (by omega))
end Esc
end Go.Proofs.YtahkpgffoiaeiaaGreatDoor
/- The contracts of the library that this seat uses, laid at its program: each is one application of a theorem of the given library. -/
namespace Go.Proofs.YtahkpgffoiaeiaaGreatDoor
open Go.Shelf
def Tryz.lays169_ren : Go.Shelf.Ren := ⟨fun | 169 => 116 | n => n, fun | 70 => 198 | 9 => 9 | 0 => 0 | 72 => 200 | 37 => 97 | 127 => 203 | 3 => 3 | 5 => 5 | n => n, fun | n => n⟩
theorem Tryz.lays169 : Go.Proofs.Lays.n169 Tryz.prog Tryz.lays169_ren := {
  mixed := by kernel_rfl
  f169 := Tryz.func116.trans (congrArg some (by kernel_rfl))
  t0 := Tryz.underlying0
  a0 := Tryz.isAgg0
  z0 := Tryz.sizeOf0
  v0 := Tryz.zeroValue0
  t3 := Tryz.underlying3
  a3 := Tryz.isAgg3
  z3 := Tryz.sizeOf3
  v3 := Tryz.zeroValue3
  t9 := Tryz.underlying9
  a9 := Tryz.isAgg9
  z9 := Tryz.sizeOf9
  v9 := Tryz.zeroValue9
  t37 := Tryz.underlying97
  a37 := Tryz.isAgg97
  z37 := Tryz.sizeOf97
  v37 := Tryz.zeroValue97
  t70 := Tryz.underlying198
  a70 := Tryz.isAgg198
  z70 := Tryz.sizeOf198
  v70 := Tryz.zeroValue198
  t72 := Tryz.underlying200
  a72 := Tryz.isAgg200
  z72 := Tryz.sizeOf200
  v72 := Tryz.zeroValue200
  t127 := Tryz.underlying203
  a127 := Tryz.isAgg203
  z127 := Tryz.sizeOf203
  v127 := Tryz.zeroValue203 }
theorem Tryz.Builder_Extra_169 : Builder.Extra Tryz.prog Tryz.lays169_ren := {
  sizeBuilder := by kernel_rfl
  liesBuilder := by kernel_rfl
  t5 := Tryz.underlying5
  a5 := Tryz.isAgg5
  z5 := Tryz.sizeOf5
  v5 := Tryz.zeroValue5
  infoByte := by kernel_rfl
  cellsByte := by kernel_rfl
  sizeByte := by kernel_rfl
  neB5 := by decide }
def Tryz.lays161_ren : Go.Shelf.Ren := ⟨fun | 161 => 137 | 231 => 142 | 227 => 143 | 233 => 144 | 235 => 145 | 228 => 146 | 197 => 147 | 151 => 148 | 260 => 149 | 152 => 150 | 137 => 151 | 119 => 152 | 224 => 153 | 225 => 154 | 217 => 155 | 266 => 156 | n => n, fun | 9 => 9 | 4 => 4 | 3 => 3 | 5 => 5 | 117 => 244 | 116 => 243 | 0 => 0 | 124 => 247 | 105 => 248 | 21 => 21 | 119 => 252 | 46 => 253 | 139 => 256 | 138 => 255 | n => n, fun | 3 => 3 | 4 => 4 | n => n⟩
theorem Tryz.lays161 : Go.Proofs.Lays.n161 Tryz.prog Tryz.lays161_ren := {
  mixed := by kernel_rfl
  f119 := Tryz.func152.trans (congrArg some (by kernel_rfl))
  f137 := Tryz.func151.trans (congrArg some (by kernel_rfl))
  f151 := Tryz.func148.trans (congrArg some (by kernel_rfl))
  f152 := Tryz.func150.trans (congrArg some (by kernel_rfl))
  f161 := Tryz.func137.trans (congrArg some (by kernel_rfl))
  f197 := Tryz.func147.trans (congrArg some (by kernel_rfl))
  f217 := Tryz.func155.trans (congrArg some (by kernel_rfl))
  f224 := Tryz.func153.trans (congrArg some (by kernel_rfl))
  f225 := Tryz.func154.trans (congrArg some (by kernel_rfl))
  f227 := Tryz.func143.trans (congrArg some (by kernel_rfl))
  f228 := Tryz.func146.trans (congrArg some (by kernel_rfl))
  f231 := Tryz.func142.trans (congrArg some (by kernel_rfl))
  f233 := Tryz.func144.trans (congrArg some (by kernel_rfl))
  f235 := Tryz.func145.trans (congrArg some (by kernel_rfl))
  f260 := Tryz.func149.trans (congrArg some (by kernel_rfl))
  f266 := Tryz.func156.trans (congrArg some (by kernel_rfl))
  t0 := Tryz.underlying0
  a0 := Tryz.isAgg0
  z0 := Tryz.sizeOf0
  v0 := Tryz.zeroValue0
  t3 := Tryz.underlying3
  a3 := Tryz.isAgg3
  z3 := Tryz.sizeOf3
  v3 := Tryz.zeroValue3
  t4 := Tryz.underlying4
  a4 := Tryz.isAgg4
  z4 := Tryz.sizeOf4
  v4 := Tryz.zeroValue4
  t5 := Tryz.underlying5
  a5 := Tryz.isAgg5
  z5 := Tryz.sizeOf5
  v5 := Tryz.zeroValue5
  t9 := Tryz.underlying9
  a9 := Tryz.isAgg9
  z9 := Tryz.sizeOf9
  v9 := Tryz.zeroValue9
  t21 := Tryz.underlying21
  a21 := Tryz.isAgg21
  z21 := Tryz.sizeOf21
  v21 := Tryz.zeroValue21
  t46 := Tryz.underlying253
  a46 := Tryz.isAgg253
  z46 := Tryz.sizeOf253
  v46 := Tryz.zeroValue253
  t105 := Tryz.underlying248
  a105 := Tryz.isAgg248
  z105 := Tryz.sizeOf248
  v105 := Tryz.zeroValue248
  t116 := Tryz.underlying243
  a116 := Tryz.isAgg243
  z116 := Tryz.sizeOf243
  t117 := Tryz.underlying244
  a117 := Tryz.isAgg244
  z117 := Tryz.sizeOf244
  v117 := Tryz.zeroValue244
  t119 := Tryz.underlying252
  a119 := Tryz.isAgg252
  z119 := Tryz.sizeOf252
  t124 := Tryz.underlying247
  a124 := Tryz.isAgg247
  z124 := Tryz.sizeOf247
  v124 := Tryz.zeroValue247
  t138 := Tryz.underlying255
  a138 := Tryz.isAgg255
  z138 := Tryz.sizeOf255
  v138 := Tryz.zeroValue255
  t139 := Tryz.underlying256
  a139 := Tryz.isAgg256
  z139 := Tryz.sizeOf256
  v139 := Tryz.zeroValue256
  g3 := by kernel_rfl
  g4 := by kernel_rfl }
open Go.RowKit in
theorem Tryz.strings_TrimLeft_one (s : ByteArray) (c : UInt8) (hc : c.toNat < 128) (w : World) :
    Calls Tryz.prog 137 #[.string s, .string ⟨#[c]⟩] w fun e w' => e = .returned (.string ⟨(Lib.trimLeftB s.data.toList c).toArray⟩) ∧ w' = w := Any.strings_TrimLeft_one Tryz.lays161 s c hc w
open Go.RowKit in
theorem Tryz.Builder_String_any_k (B b : Nat) (l : List UInt8) (w : World) (h : Lib.IsBuilderF 200 5 B b (Lib.byteCells l) w) (hBw : B ≤ w.heap.size) :
    Calls Tryz.prog 116 #[.pointer (some ⟨b, 0, none⟩)] w fun e w' => e = .returned (.string ⟨l.toArray⟩) ∧ (Lib.IsBuilderF 200 5 B b (Lib.byteCells l) w' ∧ Below B w w' ∧ Lib.OthersKept 5 (some b) w w') := Any.Builder_String_any_k Tryz.lays169 Tryz.Builder_Extra_169 B b l w h hBw
def Tryz.laysM316_ren : Go.Shelf.Ren := ⟨fun | 316 => 103 | n => n, fun | 9 => 9 | 3 => 3 | 4 => 4 | 37 => 97 | 0 => 0 | 127 => 203 | 5 => 5 | n => n, fun | n => n⟩
theorem Tryz.laysM316 : Go.Proofs.LaysM.n316 Tryz.prog Tryz.laysM316_ren := {
  mixed := by kernel_rfl
  f316 := Tryz.func103.trans (congrArg some (by kernel_rfl))
  t0 := Tryz.underlying0
  a0 := Tryz.isAgg0
  z0 := Tryz.sizeOf0
  v0 := Tryz.zeroValue0
  t3 := Tryz.underlying3
  a3 := Tryz.isAgg3
  z3 := Tryz.sizeOf3
  v3 := Tryz.zeroValue3
  t4 := Tryz.underlying4
  a4 := Tryz.isAgg4
  z4 := Tryz.sizeOf4
  v4 := Tryz.zeroValue4
  t9 := Tryz.underlying9
  a9 := Tryz.isAgg9
  z9 := Tryz.sizeOf9
  v9 := Tryz.zeroValue9
  t37 := Tryz.underlying97
  a37 := Tryz.isAgg97
  z37 := Tryz.sizeOf97
  v37 := Tryz.zeroValue97
  t127 := Tryz.underlying203
  a127 := Tryz.isAgg203
  z127 := Tryz.sizeOf203
  v127 := Tryz.zeroValue203
  t5 := Tryz.underlying5
  a5 := Tryz.isAgg5
  z5 := Tryz.sizeOf5
  v5 := Tryz.zeroValue5
  i0 := by kernel_rfl
  i3 := by kernel_rfl
  i4 := by kernel_rfl
  i5 := by kernel_rfl
  i9 := by kernel_rfl
  i37 := by kernel_rfl
  i127 := by kernel_rfl }
open Go.RowKit in
theorem Tryz.stringslite_Clone (s : ByteArray) (w : World) (hlim : s.size ≤ 281474976710656) :
    Calls Tryz.prog 103 #[.string s] w fun e w' => e = .returned (.string s) ∧ Below w.heap.size w w' := Any.stringslite_Clone Tryz.laysM316 s w hlim
end Go.Proofs.YtahkpgffoiaeiaaGreatDoor
