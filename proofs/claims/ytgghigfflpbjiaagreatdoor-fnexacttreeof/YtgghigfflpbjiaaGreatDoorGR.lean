/- Laid together: Build, Esc, Esc2. -/
import Derived.Test.YtgghigfflpbjiaaGreatDoorRows
import Derived.WalkKit
import Derived.ProofKit
import Derived.Lib.FrozenHead2
import Derived.Lib.OthersKept
import Derived.Shelf.Strings.BuilderK
import Derived.Laws.Externs
import Derived.OpenShut
import Derived.LoopN
import Derived.Test.YtgghigfflpbjiaaGreatDoorShelf
import Derived.WalkSpells
/- What strings.Builder's WriteByte and WriteString leave, at this program: the builder holds the bytes that it held and behind them what was written; nothing below it has turned. Condition: at most 2^47 bytes. -/
namespace Go.Proofs.YtgghigfflpbjiaaGreatDoor
open Go.Shelf Go.RowKit
set_option linter.unusedVariables false
namespace Bld
theorem infoByte : (Tryz.prog.info? 5).map (fun i => (i.zero, i.size, i.bytes)) = some (some (.int .u8 0), 1, 1) := by kernel_rfl
theorem sizeBuilder : (Tryz.prog.info? 99).map (·.size) = some 2 := by kernel_rfl
theorem liesBuilder : liesAt Tryz.prog Tryz.prog.depth 99 (2 / Tryz.prog.cellsOf 99) 0 99 1 = true := by kernel_rfl
set_option maxRecDepth 100000 in
set_option maxHeartbeats 400000 in
theorem check_fresh (b : Nat) (w : World) (hc : w.cell? ⟨b, 0, none⟩ = some (.pointer none)) (hs : w.shape? b = some (99, 2)) (hf : w.frozen? ⟨b, 0, none⟩ = false) :
    Calls Tryz.prog 110 #[.pointer (some ⟨b, 0, none⟩)] w fun e w' => e = .returned (.tuple #[]) ∧ w' = w.setCell ⟨b, 0, none⟩ (.pointer (some ⟨b, 0, none⟩)) := by
  obtain ⟨j, hj, hjs⟩ := Option.map_eq_some_iff.1 sizeBuilder
  go_enter Tryz.func110, Tryz.ntmps110
  go_wp2
  rw [Lib.run_to_unsafe w ⟨b, 0, none⟩ Tryz.underlying97 Tryz.underlying190 hj (by rw [hjs]; decide) hs (Nat.zero_lt_succ 1)]
  simp only [Result.andThen]
  rw [Oper.upon_value]
  go_wp2
  rw [run_callFunc_extern Tryz.func126 (by kernel_rfl) (by kernel_rfl) (by kernel_rfl) (e := Extern.AbiNoEscape.same) (by kernel_rfl)]
  rw [Lib.run_noEscape]
  simp only [Result.andThen]
  rw [Oper.upon_value]
  go_wp2
  rw [Lib.run_from_unsafe w ⟨b, 0, none⟩ Tryz.underlying190 Tryz.underlying97 hj hs liesBuilder]
  simp only [Result.andThen]
  rw [Oper.upon_value]
  go_wp2
  go_end0
  exact ⟨rfl, rfl⟩
set_option maxRecDepth 100000 in
set_option maxHeartbeats 400000 in
theorem check_used (b : Nat) (w : World) (hc : w.cell? ⟨b, 0, none⟩ = some (.pointer (some ⟨b, 0, none⟩))) :
    Calls Tryz.prog 110 #[.pointer (some ⟨b, 0, none⟩)] w fun e w' => e = .returned (.tuple #[]) ∧ w' = w := by
  obtain ⟨j, hj, hjs⟩ := Option.map_eq_some_iff.1 sizeBuilder
  go_enter Tryz.func110, Tryz.ntmps110
  go_wp2
  rw [Lib.run_neq_ptr_same w _ Tryz.underlying97 hj]
  go_wp2
  go_end0
  exact ⟨rfl, rfl⟩
theorem check (B b : Nat) (bs : List Value) (w : World) (h : Lib.IsBuilderF 99 5 B b bs w) :
    Calls Tryz.prog 110 #[.pointer (some ⟨b, 0, none⟩)] w fun e w' => e = .returned (.tuple #[]) ∧ Lib.BuilderAtF 99 5 B b (.pointer (some ⟨b, 0, none⟩)) bs w' ∧ Below B w w' ∧ Lib.OthersKept 5 (some b) w w' := by
  rcases h with h | h
  · refine (check_fresh b w h.cell0 h.shape h.frozen0).mono ?_
    rintro e w' ⟨rfl, rfl⟩
    exact ⟨rfl, h.used _, (Below.refl B w).setCell (p := ⟨b, 0, none⟩) h.1 _, (Lib.OthersKept.refl _ _ w).setCell ⟨b, 0, none⟩ rfl _⟩
  · refine (check_used b w h.cell0).mono ?_
    rintro e w' ⟨rfl, rfl⟩
    exact ⟨rfl, h, Below.refl B _, Lib.OthersKept.refl _ _ _⟩

set_option maxRecDepth 100000 in
set_option maxHeartbeats 1000000 in
theorem writeByte (B b : Nat) (bs : List Value) (c : Int) (w : World) (h : Lib.IsBuilderF 99 5 B b bs w) (hlen : bs.length + 1 ≤ 140737488355328) (hBw : B ≤ w.heap.size) :
    Calls Tryz.prog 135 #[.pointer (some ⟨b, 0, none⟩), .int .u8 c] w fun e w' => e = .returned .nilIface ∧ Lib.BuilderAtF 99 5 B b (.pointer (some ⟨b, 0, none⟩)) (bs ++ [.int .u8 c]) w' ∧ Below B w w' ∧ Lib.OthersKept 5 (some b) w w' := by
  obtain ⟨i0, hi, hz0, hz1, hz2⟩ := info_parts infoByte
  go_enter Tryz.func135, Tryz.ntmps135
  go_wp2_with fail
  refine (check B b bs _ h).mono ?_
  rintro e w1 ⟨rfl, h1, hb1, hk1⟩
  obtain ⟨hB, v, hbk, hown, hne⟩ := h1
  have c0 : w1.cell? ⟨b, 0, none⟩ = some (.pointer (some ⟨b, 0, none⟩)) := by rw [Lib.cell_of_heap hbk]; rfl
  have c1 : w1.cell? ⟨b, 1, none⟩ = some v := by rw [Lib.cell_of_heap hbk]; rfl
  go_wp2_with (at_builtin; refine wpList_append_ownF _ rfl _ _ 92 rfl B 5 i0 (.int .u8 0) 1 1 Tryz.underlying92 hi hz0 hz1 hz2 rfl (by decide) _ _ _ rfl (hown.alloc _) ⟨w1.heap.size, 0, none⟩ 1 1 [.int .u8 c] rfl rfl ?c1 ?c2 ?c3 ?c4 ?c5 ?_)
  case c1 =>
    intro j u hj
    match j, hj with
    | 0, hj => simp at hj; subst hj; simp [Addr.add]
  case c2 => intro u hu; simp at hu; subst hu; rfl
  case c3 => unfold maxLen; omega
  case c4 => omega
  case c5 => have := hb1.size; simp; omega
  intro v' w2 hown' hgrow _
  have hlt : b < w1.heap.size := by
    rcases Nat.lt_or_ge b w1.heap.size with h' | h'
    · exact h'
    · simp [Array.getElem?_eq_none h'] at hbk
  have hb2 : w2.heap[b]? = some (.cells #[.pointer (some ⟨b, 0, none⟩), v] 99 (0, 0)) := by
    rw [hgrow.block b (by simp; omega) (fun e => hne e.symm), Lib.alloc_old w1 _ b hlt]
    exact hbk
  have d0 : w2.cell? ⟨b, 0, none⟩ = some (.pointer (some ⟨b, 0, none⟩)) := by rw [Lib.cell_of_heap hb2]; rfl
  have d1 : w2.cell? ⟨b, 1, none⟩ = some v := by rw [Lib.cell_of_heap hb2]; rfl
  have f1 : w2.frozen? ⟨b, 1, none⟩ = false := Lib.frozen_of_heap hb2 1
  obtain ⟨g, cap, rfl⟩ : ∃ g cap, v' = .slice (some ⟨g, 0, none⟩) (bs.length + 1) cap := by
    rcases hown'.2 with ⟨_, h0⟩ | ⟨g, cap, cur, fz, hv, _⟩
    · omega
    · exact ⟨g, cap, hv⟩
  go_wp2
  go_ret
  refine ⟨rfl, ?_, ?_, ((hk1.alloc _).grown hgrow (Lib.ownsRowF_kind (hown.alloc _))).setCell ⟨b, 1, none⟩ rfl _⟩
  · exact Lib.BuilderAtF.put (T := 99) (e := 5) hB hb2 (bs' := bs ++ [.int .u8 c]) (by simpa using hown') (by decide)
  · exact ((hb1.alloc (by have := hb1.size; omega) _).grown hgrow (by have := hb1.size; simp; omega) (fun k hk => (hown.lt k hk).1)).setCell (p := ⟨b, 1, none⟩) hB _

set_option maxRecDepth 100000 in
set_option maxHeartbeats 1000000 in
theorem writeString (B b : Nat) (bs : List Value) (s : ByteArray) (w : World) (h : Lib.IsBuilderF 99 5 B b bs w) (hlen : bs.length + s.size ≤ 140737488355328) (hBw : B ≤ w.heap.size) :
    Calls Tryz.prog 89 #[.pointer (some ⟨b, 0, none⟩), .string s] w fun e w' => e = .returned (.tuple #[.int .i64 s.size, .nilIface]) ∧ Lib.BuilderAtF 99 5 B b (.pointer (some ⟨b, 0, none⟩)) (bs ++ Lib.strCells s) w' ∧ Below B w w' ∧ Lib.OthersKept 5 (some b) w w' := by
  obtain ⟨i0, hi, hz0, hz1, hz2⟩ := info_parts infoByte
  go_enter Tryz.func89, Tryz.ntmps89
  go_wp2_with fail
  refine (check B b bs _ h).mono ?_
  rintro e w1 ⟨rfl, h1, hb1, hk1⟩
  obtain ⟨hB, v, hbk, hown, hne⟩ := h1
  have c0 : w1.cell? ⟨b, 0, none⟩ = some (.pointer (some ⟨b, 0, none⟩)) := by rw [Lib.cell_of_heap hbk]; rfl
  have c1 : w1.cell? ⟨b, 1, none⟩ = some v := by rw [Lib.cell_of_heap hbk]; rfl
  go_wp2_with (at_builtin; refine Lib.wpList_append_own_stringF _ rfl _ _ 92 9 rfl B 5 i0 Tryz.underlying92 Tryz.underlying9 hi hz0 hz1 hz2 _ _ _ rfl hown s rfl ?c3 ?c4 ?c5 ?_)
  case c3 => unfold maxLen; omega
  case c4 => omega
  case c5 => have := hb1.size; omega
  intro v' w2 hown' hgrow _
  have hlt : b < w1.heap.size := by
    rcases Nat.lt_or_ge b w1.heap.size with h' | h'
    · exact h'
    · simp [Array.getElem?_eq_none h'] at hbk
  have hb2 : w2.heap[b]? = some (.cells #[.pointer (some ⟨b, 0, none⟩), v] 99 (0, 0)) := by
    rw [hgrow.block b hlt (fun e => hne e.symm)]
    exact hbk
  have d0 : w2.cell? ⟨b, 0, none⟩ = some (.pointer (some ⟨b, 0, none⟩)) := by rw [Lib.cell_of_heap hb2]; rfl
  have d1 : w2.cell? ⟨b, 1, none⟩ = some v := by rw [Lib.cell_of_heap hb2]; rfl
  have f1 : w2.frozen? ⟨b, 1, none⟩ = false := Lib.frozen_of_heap hb2 1
  obtain ⟨ao, n', cap, rfl⟩ : ∃ ao n' cap, v' = .slice ao n' cap := by
    rcases hown'.2 with ⟨hv, _⟩ | ⟨g, cap, cur, fz, hv, _⟩
    · exact ⟨_, _, _, hv⟩
    · exact ⟨_, _, _, hv⟩
  go_wp2
  go_ret2
  refine ⟨rfl, ?_, ?_, (hk1.grown hgrow (Lib.ownsRowF_kind hown)).setCell ⟨b, 1, none⟩ rfl _⟩
  · exact Lib.BuilderAtF.put (T := 99) (e := 5) hB hb2 (bs' := bs ++ Lib.strCells s) (by simpa [Lib.strCells_length] using hown') (by decide)
  · exact (hb1.grown hgrow (by have := hb1.size; omega) (fun k hk => (hown.lt k hk).1)).setCell (p := ⟨b, 1, none⟩) hB _
end Bld
end Go.Proofs.YtgghigfflpbjiaaGreatDoor
/- What writeEscaped leaves, at this program: the builder holds behind what it held the byte as it is written in a value. Conditions: the table of entities lies as its initialiser lays it; there is room. -/
namespace Go.Proofs.YtgghigfflpbjiaaGreatDoor
open Go.Shelf Go.RowKit
set_option linter.unusedVariables false
namespace Esc
def entVals : List Value := [.string ⟨#[38, 108, 116, 59]⟩, .int .u8 60, .bool true, .string ⟨#[38, 103, 116, 59]⟩, .int .u8 62, .bool true, .string ⟨#[38, 97, 109, 112, 59]⟩, .int .u8 38, .bool true, .string ⟨#[38, 113, 117, 111, 116, 59]⟩, .int .u8 34, .bool true, .string ⟨#[38, 97, 112, 111, 115, 59]⟩, .int .u8 39, .bool false]
def Ent (w : World) : Prop := ∀ i : Nat, i < 15 → w.cell? ⟨2, i, none⟩ = entVals[i]?
def entArr : Array Value := #[.string ⟨#[38, 108, 116, 59]⟩, .int .u8 60, .bool true, .string ⟨#[38, 103, 116, 59]⟩, .int .u8 62, .bool true, .string ⟨#[38, 97, 109, 112, 59]⟩, .int .u8 38, .bool true, .string ⟨#[38, 113, 117, 111, 116, 59]⟩, .int .u8 34, .bool true, .string ⟨#[38, 97, 112, 111, 115, 59]⟩, .int .u8 39, .bool false]
theorem idx0 (w : World) : Sem.run Tryz.prog (Instr.index 206 (.agg entArr) (.int .i64 0)) w = .ok (.agg #[.string ⟨#[38, 108, 116, 59]⟩, .int .u8 60, .bool true]) w := by kernel_rfl
theorem idx1 (w : World) : Sem.run Tryz.prog (Instr.index 206 (.agg entArr) (.int .i64 1)) w = .ok (.agg #[.string ⟨#[38, 103, 116, 59]⟩, .int .u8 62, .bool true]) w := by kernel_rfl
theorem idx2 (w : World) : Sem.run Tryz.prog (Instr.index 206 (.agg entArr) (.int .i64 2)) w = .ok (.agg #[.string ⟨#[38, 97, 109, 112, 59]⟩, .int .u8 38, .bool true]) w := by kernel_rfl
theorem idx3 (w : World) : Sem.run Tryz.prog (Instr.index 206 (.agg entArr) (.int .i64 3)) w = .ok (.agg #[.string ⟨#[38, 113, 117, 111, 116, 59]⟩, .int .u8 34, .bool true]) w := by kernel_rfl
theorem idx4 (w : World) : Sem.run Tryz.prog (Instr.index 206 (.agg entArr) (.int .i64 4)) w = .ok (.agg #[.string ⟨#[38, 97, 112, 111, 115, 59]⟩, .int .u8 39, .bool false]) w := by kernel_rfl
set_option maxRecDepth 100000 in
set_option maxHeartbeats 1000000 in
theorem esc60 (B b : Nat) (bs : List Value) (w : World) (he : Ent w) (h : Lib.IsBuilderF 99 5 B b bs w) (hlen : bs.length + 6 ≤ 140737488355328) (hBw : B ≤ w.heap.size) :
    Calls Tryz.prog 125 #[.pointer (some ⟨b, 0, none⟩), .int .u8 60] w fun e w' => e = .returned (.tuple #[]) ∧ Lib.IsBuilderF 99 5 B b (bs ++ Lib.strCells ⟨#[38, 108, 116, 59]⟩) w' ∧ Below B w w' := by
  have e0 := he 0 (by decide); have e1 := he 1 (by decide); have e2 := he 2 (by decide); have e3 := he 3 (by decide); have e4 := he 4 (by decide)
  have e5 := he 5 (by decide); have e6 := he 6 (by decide); have e7 := he 7 (by decide); have e8 := he 8 (by decide); have e9 := he 9 (by decide)
  have e10 := he 10 (by decide); have e11 := he 11 (by decide); have e12 := he 12 (by decide); have e13 := he 13 (by decide); have e14 := he 14 (by decide)
  simp only [entVals, List.getElem?_cons_zero, List.getElem?_cons_succ] at e0 e1 e2 e3 e4 e5 e6 e7 e8 e9 e10 e11 e12 e13 e14
  clear he
  have i0 := idx0; have i1 := idx1; have i2 := idx2; have i3 := idx3; have i4 := idx4
  simp only [entArr] at i0 i1 i2 i3 i4
  go_enter Tryz.func125, Tryz.ntmps125
  go_wp2
  refine wp_loop_rounds 6 ?_
  rw [rounds_succ]
  go_wp2_with fail
  refine (Bld.writeString B b bs _ _ (h.alloc _) (by simp [ByteArray.size]; omega) (by simp; omega)).mono ?_
  rintro e w1 ⟨rfl, h1, hb1, hk1⟩
  go_wp2
  refine bodyPost_ret (v := .tuple #[]) (by simp [results, Tryz.results125, go_sem]) rfl ?_
  exact ⟨rfl, .inr h1, ((Below.refl B w).alloc (by first | exact hBw | (simp; omega)) _).trans hb1⟩
set_option maxRecDepth 100000 in
set_option maxHeartbeats 1000000 in
theorem esc62 (B b : Nat) (bs : List Value) (w : World) (he : Ent w) (h : Lib.IsBuilderF 99 5 B b bs w) (hlen : bs.length + 6 ≤ 140737488355328) (hBw : B ≤ w.heap.size) :
    Calls Tryz.prog 125 #[.pointer (some ⟨b, 0, none⟩), .int .u8 62] w fun e w' => e = .returned (.tuple #[]) ∧ Lib.IsBuilderF 99 5 B b (bs ++ Lib.strCells ⟨#[38, 103, 116, 59]⟩) w' ∧ Below B w w' := by
  have e0 := he 0 (by decide); have e1 := he 1 (by decide); have e2 := he 2 (by decide); have e3 := he 3 (by decide); have e4 := he 4 (by decide)
  have e5 := he 5 (by decide); have e6 := he 6 (by decide); have e7 := he 7 (by decide); have e8 := he 8 (by decide); have e9 := he 9 (by decide)
  have e10 := he 10 (by decide); have e11 := he 11 (by decide); have e12 := he 12 (by decide); have e13 := he 13 (by decide); have e14 := he 14 (by decide)
  simp only [entVals, List.getElem?_cons_zero, List.getElem?_cons_succ] at e0 e1 e2 e3 e4 e5 e6 e7 e8 e9 e10 e11 e12 e13 e14
  clear he
  have i0 := idx0; have i1 := idx1; have i2 := idx2; have i3 := idx3; have i4 := idx4
  simp only [entArr] at i0 i1 i2 i3 i4
  go_enter Tryz.func125, Tryz.ntmps125
  go_wp2
  refine wp_loop_rounds 6 ?_
  rw [rounds_succ]
  go_wp2_with fail
  rw [rounds_succ]
  go_wp2_with fail
  refine (Bld.writeString B b bs _ _ ((h.alloc _).alloc _) (by simp [ByteArray.size]; omega) (by simp; omega)).mono ?_
  rintro e w1 ⟨rfl, h1, hb1, hk1⟩
  go_wp2
  refine bodyPost_ret (v := .tuple #[]) (by simp [results, Tryz.results125, go_sem]) rfl ?_
  exact ⟨rfl, .inr h1, (((Below.refl B w).alloc (by first | exact hBw | (simp; omega)) _).alloc (by first | exact hBw | (simp; omega)) _).trans hb1⟩
set_option maxRecDepth 100000 in
set_option maxHeartbeats 1000000 in
theorem esc38 (B b : Nat) (bs : List Value) (w : World) (he : Ent w) (h : Lib.IsBuilderF 99 5 B b bs w) (hlen : bs.length + 6 ≤ 140737488355328) (hBw : B ≤ w.heap.size) :
    Calls Tryz.prog 125 #[.pointer (some ⟨b, 0, none⟩), .int .u8 38] w fun e w' => e = .returned (.tuple #[]) ∧ Lib.IsBuilderF 99 5 B b (bs ++ Lib.strCells ⟨#[38, 97, 109, 112, 59]⟩) w' ∧ Below B w w' := by
  have e0 := he 0 (by decide); have e1 := he 1 (by decide); have e2 := he 2 (by decide); have e3 := he 3 (by decide); have e4 := he 4 (by decide)
  have e5 := he 5 (by decide); have e6 := he 6 (by decide); have e7 := he 7 (by decide); have e8 := he 8 (by decide); have e9 := he 9 (by decide)
  have e10 := he 10 (by decide); have e11 := he 11 (by decide); have e12 := he 12 (by decide); have e13 := he 13 (by decide); have e14 := he 14 (by decide)
  simp only [entVals, List.getElem?_cons_zero, List.getElem?_cons_succ] at e0 e1 e2 e3 e4 e5 e6 e7 e8 e9 e10 e11 e12 e13 e14
  clear he
  have i0 := idx0; have i1 := idx1; have i2 := idx2; have i3 := idx3; have i4 := idx4
  simp only [entArr] at i0 i1 i2 i3 i4
  go_enter Tryz.func125, Tryz.ntmps125
  go_wp2
  refine wp_loop_rounds 6 ?_
  rw [rounds_succ]
  go_wp2_with fail
  rw [rounds_succ]
  go_wp2_with fail
  rw [rounds_succ]
  go_wp2_with fail
  refine (Bld.writeString B b bs _ _ (((h.alloc _).alloc _).alloc _) (by simp [ByteArray.size]; omega) (by simp; omega)).mono ?_
  rintro e w1 ⟨rfl, h1, hb1, hk1⟩
  go_wp2
  refine bodyPost_ret (v := .tuple #[]) (by simp [results, Tryz.results125, go_sem]) rfl ?_
  exact ⟨rfl, .inr h1, ((((Below.refl B w).alloc (by first | exact hBw | (simp; omega)) _).alloc (by first | exact hBw | (simp; omega)) _).alloc (by first | exact hBw | (simp; omega)) _).trans hb1⟩
set_option maxRecDepth 100000 in
set_option maxHeartbeats 1000000 in
theorem esc34 (B b : Nat) (bs : List Value) (w : World) (he : Ent w) (h : Lib.IsBuilderF 99 5 B b bs w) (hlen : bs.length + 6 ≤ 140737488355328) (hBw : B ≤ w.heap.size) :
    Calls Tryz.prog 125 #[.pointer (some ⟨b, 0, none⟩), .int .u8 34] w fun e w' => e = .returned (.tuple #[]) ∧ Lib.IsBuilderF 99 5 B b (bs ++ Lib.strCells ⟨#[38, 113, 117, 111, 116, 59]⟩) w' ∧ Below B w w' := by
  have e0 := he 0 (by decide); have e1 := he 1 (by decide); have e2 := he 2 (by decide); have e3 := he 3 (by decide); have e4 := he 4 (by decide)
  have e5 := he 5 (by decide); have e6 := he 6 (by decide); have e7 := he 7 (by decide); have e8 := he 8 (by decide); have e9 := he 9 (by decide)
  have e10 := he 10 (by decide); have e11 := he 11 (by decide); have e12 := he 12 (by decide); have e13 := he 13 (by decide); have e14 := he 14 (by decide)
  simp only [entVals, List.getElem?_cons_zero, List.getElem?_cons_succ] at e0 e1 e2 e3 e4 e5 e6 e7 e8 e9 e10 e11 e12 e13 e14
  clear he
  have i0 := idx0; have i1 := idx1; have i2 := idx2; have i3 := idx3; have i4 := idx4
  simp only [entArr] at i0 i1 i2 i3 i4
  go_enter Tryz.func125, Tryz.ntmps125
  go_wp2
  refine wp_loop_rounds 6 ?_
  rw [rounds_succ]
  go_wp2_with fail
  rw [rounds_succ]
  go_wp2_with fail
  rw [rounds_succ]
  go_wp2_with fail
  rw [rounds_succ]
  go_wp2_with fail
  refine (Bld.writeString B b bs _ _ ((((h.alloc _).alloc _).alloc _).alloc _) (by simp [ByteArray.size]; omega) (by simp; omega)).mono ?_
  rintro e w1 ⟨rfl, h1, hb1, hk1⟩
  go_wp2
  refine bodyPost_ret (v := .tuple #[]) (by simp [results, Tryz.results125, go_sem]) rfl ?_
  exact ⟨rfl, .inr h1, (((((Below.refl B w).alloc (by first | exact hBw | (simp; omega)) _).alloc (by first | exact hBw | (simp; omega)) _).alloc (by first | exact hBw | (simp; omega)) _).alloc (by first | exact hBw | (simp; omega)) _).trans hb1⟩
set_option maxRecDepth 100000 in
set_option maxHeartbeats 2000000 in
theorem escOther (B b : Nat) (bs : List Value) (c : Int) (w : World) (he : Ent w) (h : Lib.IsBuilderF 99 5 B b bs w) (hlen : bs.length + 6 ≤ 140737488355328) (hBw : B ≤ w.heap.size) (n1 : ((60 : Int) == c) = false) (n2 : ((62 : Int) == c) = false) (n3 : ((38 : Int) == c) = false) (n4 : ((34 : Int) == c) = false) :
    Calls Tryz.prog 125 #[.pointer (some ⟨b, 0, none⟩), .int .u8 c] w fun e w' => e = .returned (.tuple #[]) ∧ Lib.IsBuilderF 99 5 B b (bs ++ [.int .u8 c]) w' ∧ Below B w w' := by
  have e0 := he 0 (by decide); have e1 := he 1 (by decide); have e2 := he 2 (by decide); have e3 := he 3 (by decide); have e4 := he 4 (by decide)
  have e5 := he 5 (by decide); have e6 := he 6 (by decide); have e7 := he 7 (by decide); have e8 := he 8 (by decide); have e9 := he 9 (by decide)
  have e10 := he 10 (by decide); have e11 := he 11 (by decide); have e12 := he 12 (by decide); have e13 := he 13 (by decide); have e14 := he 14 (by decide)
  simp only [entVals, List.getElem?_cons_zero, List.getElem?_cons_succ] at e0 e1 e2 e3 e4 e5 e6 e7 e8 e9 e10 e11 e12 e13 e14
  clear he
  have i0 := idx0; have i1 := idx1; have i2 := idx2; have i3 := idx3; have i4 := idx4
  simp only [entArr] at i0 i1 i2 i3 i4
  go_enter Tryz.func125, Tryz.ntmps125
  go_wp2
  refine wp_loop_rounds 6 ?_
  rw [rounds_succ]
  go_wp2_with fail
  rw [rounds_succ]
  go_wp2_with fail
  rw [rounds_succ]
  go_wp2_with fail
  rw [rounds_succ]
  go_wp2_with fail
  rw [rounds_succ]
  go_wp2_with fail
  rw [rounds_succ]
  go_wp2_with fail
  refine (Bld.writeByte B b bs _ _ (((((h.alloc _).alloc _).alloc _).alloc _).alloc _) (by omega) (by simp; omega)).mono ?_
  rintro e w1 ⟨rfl, h1, hb1, hk1⟩
  go_wp2
  go_end0
  exact ⟨rfl, .inr h1, ((((((Below.refl B w).alloc (by first | exact hBw | (simp; omega)) _).alloc (by first | exact hBw | (simp; omega)) _).alloc (by first | exact hBw | (simp; omega)) _).alloc (by first | exact hBw | (simp; omega)) _).alloc (by first | exact hBw | (simp; omega)) _).trans hb1⟩

/-- How a byte is written in a value. -/
def esc (c : UInt8) : List UInt8 := if c.toNat = 60 then [38, 108, 116, 59] else if c.toNat = 62 then [38, 103, 116, 59] else if c.toNat = 38 then [38, 97, 109, 112, 59] else if c.toNat = 34 then [38, 113, 117, 111, 116, 59] else [c]
def escAll (l : List UInt8) : List UInt8 := l.flatMap esc
theorem esc_len (c : UInt8) : (esc c).length ≤ 6 := by unfold esc; repeat (first | split | simp)
theorem escAll_len (l : List UInt8) : (escAll l).length ≤ 6 * l.length := by
  induction l with
  | nil => simp [escAll]
  | cons c r ih => have := esc_len c; simp only [escAll, List.flatMap_cons, List.length_append, List.length_cons] at *; omega
theorem writeEsc (B b : Nat) (l : List UInt8) (c : UInt8) (w : World) (he : Ent w) (h : Lib.IsBuilderF 99 5 B b (Lib.byteCells l) w) (hlen : l.length + 6 ≤ 140737488355328) (hBw : B ≤ w.heap.size) :
    Calls Tryz.prog 125 #[.pointer (some ⟨b, 0, none⟩), .int .u8 c.toNat] w fun e w' => e = .returned (.tuple #[]) ∧ Lib.IsBuilderF 99 5 B b (Lib.byteCells (l ++ esc c)) w' ∧ Below B w w' := by
  have hl : (Lib.byteCells l).length = l.length := by simp [Lib.byteCells]
  by_cases h60 : c.toNat = 60
  · rw [h60, show esc c = [38, 108, 116, 59] from by simp [esc, h60], Lib.byteCells_append]
    exact esc60 B b _ w he h (by omega) hBw
  by_cases h62 : c.toNat = 62
  · rw [h62, show esc c = [38, 103, 116, 59] from by simp [esc, h62], Lib.byteCells_append]
    exact esc62 B b _ w he h (by omega) hBw
  by_cases h38 : c.toNat = 38
  · rw [h38, show esc c = [38, 97, 109, 112, 59] from by simp [esc, h38], Lib.byteCells_append]
    exact esc38 B b _ w he h (by omega) hBw
  by_cases h34 : c.toNat = 34
  · rw [h34, show esc c = [38, 113, 117, 111, 116, 59] from by simp [esc, h34], Lib.byteCells_append]
    exact esc34 B b _ w he h (by omega) hBw
  · rw [show esc c = [c] from by simp [esc, h60, h62, h38, h34], Lib.byteCells_append]
    exact escOther B b _ _ w he h (by omega) hBw (beq_eq_false_iff_ne.2 (by omega)) (beq_eq_false_iff_ne.2 (by omega)) (beq_eq_false_iff_ne.2 (by omega)) (beq_eq_false_iff_ne.2 (by omega))
end Esc
end Go.Proofs.YtgghigfflpbjiaaGreatDoor
/- What the specification's EscapeText and the program's EscapeText answer, at this program: the same code and the same text. Condition of the second: the table of entities lies as its initialiser lays it. -/
namespace Go.Proofs.YtgghigfflpbjiaaGreatDoor
open Go.Shelf Go.RowKit
set_option linter.unusedVariables false
namespace Esc
theorem hid {p : Prop} (h : p) : Hid p := h
def plainB (c : UInt8) : Bool := decide (32 ≤ c.toNat) && decide (c.toNat ≤ 126)
def plainAll (l : List UInt8) : Bool := l.all plainB
def vcode (l : List UInt8) : Int := if 40 < l.length then 2 else if plainAll l = false then 5 else 0
theorem len_size (s : ByteArray) : s.data.toList.length = s.size := by simp
theorem take_snoc (s : ByteArray) (k : Nat) (h : k < s.size) : s.data.toList.take (k + 1) = s.data.toList.take k ++ [s[k]] := by
  rw [List.take_succ_eq_append_getElem (by simpa using h)]; rfl
theorem plain_no (s : ByteArray) (k : Nat) (h : k < s.size) (hn : plainB s[k] = false) : plainAll s.data.toList = false := by
  unfold plainAll
  rw [List.all_eq_false]
  refine ⟨s[k], ?_, by simp [hn]⟩
  exact List.getElem_mem (l := s.data.toList) (by simpa using h)
theorem plain_snoc (s : ByteArray) (k : Nat) (h : k < s.size) (ha : plainAll (s.data.toList.take k) = true) (hy : plainB s[k] = true) : plainAll (s.data.toList.take (k + 1)) = true := by
  rw [take_snoc s k h]; unfold plainAll at *; rw [List.all_append, ha]; simp [hy]
theorem plain_end (s : ByteArray) (k : Nat) (h : ¬ k < s.size) (ha : plainAll (s.data.toList.take k) = true) : plainAll s.data.toList = true := by
  rw [List.take_of_length_le (by simp; omega)] at ha; exact ha
theorem escAll_snoc (s : ByteArray) (k : Nat) (h : k < s.size) : escAll (s.data.toList.take (k + 1)) = escAll (s.data.toList.take k) ++ esc s[k] := by
  rw [take_snoc s k h]; simp [escAll]
theorem escAll_take (s : ByteArray) (k : Nat) : (escAll (s.data.toList.take k)).length ≤ 6 * s.size := by
  have h1 := escAll_len (s.data.toList.take k)
  have h2 : (s.data.toList.take k).length ≤ s.size := by rw [List.length_take, len_size]; omega
  omega
theorem escAll_end (s : ByteArray) (k : Nat) (h : ¬ k < s.size) : escAll (s.data.toList.take k) = escAll s.data.toList := by
  rw [List.take_of_length_le (by simp; omega)]
theorem app_str (acc l : List UInt8) : Value.string (ByteArray.mk acc.toArray ++ ByteArray.mk l.toArray) = .string ⟨(acc ++ l).toArray⟩ := by
  apply congrArg Value.string; apply ByteArray.ext; simp
theorem ext_one (s : ByteArray) (k : Nat) (h : k < s.size) : s.extract k (k + 1) = ⟨[s[k]].toArray⟩ := by
  apply ByteArray.ext
  rw [ByteArray.data_extract]
  apply Array.toList_inj.1
  rw [Array.toList_extract, List.extract_eq_take_drop, Nat.add_sub_cancel_left, List.drop_eq_getElem_cons (by simpa using h)]
  simp; rfl
theorem v_many {s : ByteArray} (h : 40 < s.size) : vcode s.data.toList = 2 := by unfold vcode; rw [len_size, if_pos h]
theorem v_text {s : ByteArray} (h : ¬ 40 < s.size) (hp : plainAll s.data.toList = false) : vcode s.data.toList = 5 := by unfold vcode; rw [len_size, if_neg h, if_pos hp]
theorem v_ok {s : ByteArray} (h : ¬ 40 < s.size) (hp : plainAll s.data.toList = true) : vcode s.data.toList = 0 := by unfold vcode; rw [len_size, if_neg h, if_neg (by simp [hp])]
set_option maxRecDepth 100000 in
set_option maxHeartbeats 400000 in
theorem specPlain (c : UInt8) (w : World) : Calls Tryz.prog 94 #[.int .u8 c.toNat] w fun e w' => e = .returned (.bool (plainB c)) ∧ w' = w := by
  by_cases h1 : (32 : Int) ≤ (c.toNat : Int)
  · by_cases h2 : (c.toNat : Int) ≤ 126
    · have HB : Hid (plainB c = true) := hid (by simp [plainB]; omega)
      go_enter Tryz.func94, Tryz.ntmps94
      go_wp2
      go_ret
      exact ⟨by rw [HB.out]; rfl, rfl⟩
    · have HB : Hid (plainB c = false) := hid (by simp [plainB]; omega)
      go_enter Tryz.func94, Tryz.ntmps94
      go_wp2
      go_ret
      exact ⟨by rw [HB.out]; rfl, rfl⟩
  · have HB : Hid (plainB c = false) := hid (by simp [plainB]; omega)
    go_enter Tryz.func94, Tryz.ntmps94
    go_wp2
    go_ret
    exact ⟨by rw [HB.out]; rfl, rfl⟩
set_option maxRecDepth 100000 in
set_option maxHeartbeats 400000 in
theorem implPlain (c : UInt8) (w : World) : Calls Tryz.prog 124 #[.int .u8 c.toNat] w fun e w' => e = .returned (.bool (plainB c)) ∧ w' = w := by
  by_cases h1 : (32 : Int) ≤ (c.toNat : Int)
  · by_cases h2 : (c.toNat : Int) ≤ 126
    · have HB : Hid (plainB c = true) := hid (by simp [plainB]; omega)
      go_enter Tryz.func124, Tryz.ntmps124
      go_wp2
      go_ret
      exact ⟨by rw [HB.out]; rfl, rfl⟩
    · have HB : Hid (plainB c = false) := hid (by simp [plainB]; omega)
      go_enter Tryz.func124, Tryz.ntmps124
      go_wp2
      go_ret
      exact ⟨by rw [HB.out]; rfl, rfl⟩
  · have HB : Hid (plainB c = false) := hid (by simp [plainB]; omega)
    go_enter Tryz.func124, Tryz.ntmps124
    go_wp2
    go_ret
    exact ⟨by rw [HB.out]; rfl, rfl⟩

set_option maxRecDepth 100000 in
set_option maxHeartbeats 400000 in
theorem specValue (s : ByteArray) (w : World) (hs : s.size ≤ maxLen) :
    Calls Tryz.prog 72 #[.string s] w fun e w' => e = .returned (.int .i64 (vcode s.data.toList)) ∧ w' = w := by
  unfold maxLen at hs
  by_cases h40 : 40 < s.size
  · have HV : Hid (vcode s.data.toList = 2) := v_many h40
    go_enter Tryz.func72, Tryz.ntmps72
    go_wp2
    go_ret
    exact ⟨by rw [HV.out]; rfl, rfl⟩
  · go_enter Tryz.func72, Tryz.ntmps72
    go_wp2
    go_loop [3] (fun i => ∃ k : Nat, k ≤ s.size ∧ i = .int .i64 k ∧ plainAll (s.data.toList.take k) = true) (fun i => s.size - (intOf i).toNat)
    case atStart => exact ⟨0, Nat.zero_le _, rfl, rfl⟩
    case round =>
      obtain ⟨k, hk, rfl, ha⟩ := hrel
      have HA : Hid (plainAll (s.data.toList.take k) = true) := ha
      clear ha
      by_cases hlt : k < s.size
      · cases hp : plainB s[k]
        · have HV : Hid (vcode s.data.toList = 5) := v_text h40 (plain_no s k hlt hp)
          have HP : Hid (plainB s[k] = false) := hp
          clear hp
          go_wp2_with (go_at_call 94; refine (specPlain s[k] _).mono ?_; rintro e w' ⟨rfl, rfl⟩; rw [HP.out])
          go_ret
          exact ⟨by rw [HV.out]; rfl, rfl⟩
        · have HS : Hid (plainAll (s.data.toList.take (k + 1)) = true) := plain_snoc s k hlt HA.out hp
          have HP : Hid (plainB s[k] = true) := hp
          clear hp
          go_wp2_with (go_at_call 94; refine (specPlain s[k] _).mono ?_; rintro e w' ⟨rfl, rfl⟩; rw [HP.out])
          exact ⟨⟨k + 1, by omega, by go_num, HS.out⟩, by simp [intOf]; omega⟩
      · have HV : Hid (vcode s.data.toList = 0) := v_ok h40 (plain_end s k hlt HA.out)
        go_wp2
        go_ret
        exact ⟨by rw [HV.out]; rfl, rfl⟩

set_option maxRecDepth 100000 in
set_option maxHeartbeats 1000000 in
theorem specEscape (s : ByteArray) (w : World) (hs : s.size ≤ 40) :
    Calls Tryz.prog 86 #[.string s] w fun e w' => e = .returned (.string ⟨(escAll s.data.toList).toArray⟩) ∧ w' = w := by
  go_enter Tryz.func86, Tryz.ntmps86
  go_wp2
  go_loop [3, 4] (fun o i => ∃ k : Nat, k ≤ s.size ∧ i = .int .i64 k ∧ o = .string ⟨(escAll (s.data.toList.take k)).toArray⟩) (fun _ i => s.size - (intOf i).toNat)
  case atStart => exact ⟨0, Nat.zero_le _, rfl, rfl⟩
  case round =>
    obtain ⟨k, hk, rfl, rfl⟩ := hrel
    have hl := escAll_take s k
    by_cases hlt : k < s.size
    · have HE : Hid (escAll (s.data.toList.take (k + 1)) = escAll (s.data.toList.take k) ++ esc s[k]) := escAll_snoc s k hlt
      generalize hacc : escAll (s.data.toList.take k) = acc at *
      clear hacc
      by_cases h60 : s[k].toNat = 60
      · have HF : Hid (esc s[k] = [38, 108, 116, 59]) := hid (by simp [esc, h60])
        have b60 : ((s[k].toNat : Int) == 60) = true := beq_iff_eq.2 (by omega)
        clear h60
        go_wp2
        exact ⟨⟨k + 1, by omega, by go_num, by rw [HE.out, HF.out]; exact app_str _ _⟩, by simp [intOf]; omega⟩
      by_cases h62 : s[k].toNat = 62
      · have HF : Hid (esc s[k] = [38, 103, 116, 59]) := hid (by simp [esc, h62])
        have b60 : ((s[k].toNat : Int) == 60) = false := beq_eq_false_iff_ne.2 (by omega)
        have b62 : ((s[k].toNat : Int) == 62) = true := beq_iff_eq.2 (by omega)
        clear h60 h62
        go_wp2
        exact ⟨⟨k + 1, by omega, by go_num, by rw [HE.out, HF.out]; exact app_str _ _⟩, by simp [intOf]; omega⟩
      by_cases h38 : s[k].toNat = 38
      · have HF : Hid (esc s[k] = [38, 97, 109, 112, 59]) := hid (by simp [esc, h38])
        have b60 : ((s[k].toNat : Int) == 60) = false := beq_eq_false_iff_ne.2 (by omega)
        have b62 : ((s[k].toNat : Int) == 62) = false := beq_eq_false_iff_ne.2 (by omega)
        have b38 : ((s[k].toNat : Int) == 38) = true := beq_iff_eq.2 (by omega)
        clear h60 h62 h38
        go_wp2
        exact ⟨⟨k + 1, by omega, by go_num, by rw [HE.out, HF.out]; exact app_str _ _⟩, by simp [intOf]; omega⟩
      by_cases h34 : s[k].toNat = 34
      · have HF : Hid (esc s[k] = [38, 113, 117, 111, 116, 59]) := hid (by simp [esc, h34])
        have b60 : ((s[k].toNat : Int) == 60) = false := beq_eq_false_iff_ne.2 (by omega)
        have b62 : ((s[k].toNat : Int) == 62) = false := beq_eq_false_iff_ne.2 (by omega)
        have b38 : ((s[k].toNat : Int) == 38) = false := beq_eq_false_iff_ne.2 (by omega)
        have b34 : ((s[k].toNat : Int) == 34) = true := beq_iff_eq.2 (by omega)
        clear h60 h62 h38 h34
        go_wp2
        exact ⟨⟨k + 1, by omega, by go_num, by rw [HE.out, HF.out]; exact app_str _ _⟩, by simp [intOf]; omega⟩
      have HF : Hid (esc s[k] = [s[k]]) := hid (by simp [esc, h60, h62, h38, h34])
      have hk1 : (k : Int) + 1 ≤ (s.size : Int) := by omega
      have hk0 : (0 : Int) ≤ (k : Int) := by omega
      have b60 : ((s[k].toNat : Int) == 60) = false := beq_eq_false_iff_ne.2 (by omega)
      have b62 : ((s[k].toNat : Int) == 62) = false := beq_eq_false_iff_ne.2 (by omega)
      have b38 : ((s[k].toNat : Int) == 38) = false := beq_eq_false_iff_ne.2 (by omega)
      have b34 : ((s[k].toNat : Int) == 34) = false := beq_eq_false_iff_ne.2 (by omega)
      clear h60 h62 h38 h34
      go_wp2
      exact ⟨⟨k + 1, by omega, by go_num, by rw [HE.out, HF.out, ext_one s k hlt]; exact app_str _ _⟩, by simp [intOf]; omega⟩
    · have HE : Hid (escAll (s.data.toList.take k) = escAll s.data.toList) := escAll_end s k hlt
      go_wp2
      go_ret
      exact ⟨by rw [← HE.out]; rfl, rfl⟩

def escRes (l : List UInt8) : List UInt8 := if vcode l = 0 then escAll l else []
def escVal (l : List UInt8) : Value := .agg #[.int .i64 (vcode l), .string ⟨(escRes l).toArray⟩]
theorem escVal_bad {l : List UInt8} {c : Int} (h : vcode l = c) (h0 : c ≠ 0) : escVal l = .agg #[.int .i64 c, .string { data := #[] }] := by
  unfold escVal escRes; rw [h, if_neg h0]
theorem escVal_ok {l : List UInt8} (h : vcode l = 0) : escVal l = .agg #[.int .i64 0, .string ⟨(escAll l).toArray⟩] := by
  unfold escVal escRes; rw [h, if_pos rfl]
theorem v_le {s : ByteArray} (h : vcode s.data.toList = 0) : s.size ≤ 40 := by
  rcases Nat.lt_or_ge 40 s.size with h1 | h1
  · rw [v_many h1] at h; simp at h
  · exact h1
theorem returned_agg {a b : Value} (h : a = b) : Ending.returned a = .returned b := by rw [h]
theorem Ent.below {w w' : World} {B : Nat} (he : Ent w) (h : Below B w w') (hB : 2 < B) : Ent w' := fun i hi => (h.cell (p := ⟨2, i, none⟩) hB).trans (he i hi)
theorem bcell {B : Nat} {W w1 : World} (hb : Below B W w1) : (∀ b o, b < B → w1.cell? ⟨b, o, none⟩ = W.cell? ⟨b, o, none⟩) ∧ (∀ b o, b < B → w1.frozen? ⟨b, o, none⟩ = W.frozen? ⟨b, o, none⟩) :=
  ⟨fun b o h => hb.cell (p := ⟨b, o, none⟩) h, fun b o h => hb.frozen (p := ⟨b, o, none⟩) h⟩
theorem fresh (w : World) (o : Obj) : Lib.IsBuilderF 99 5 (w.heap.size + 1) (w.heap.size + 1) (Lib.byteCells []) ((w.alloc o).alloc (.cells #[.pointer none, .slice none 0 0] 99)) := by
  have h := Lib.IsBuilderF.of (Lib.fresh_isBuilder 99 5 (w.alloc o))
  rw [show (w.alloc o).heap.size = w.heap.size + 1 from by simp] at h
  exact h
theorem blt {T e : TypeId} {B b : Nat} {bs : List Value} {w : World} (h : Lib.IsBuilderF T e B b bs w) : b < w.heap.size := h.elim (fun x => x.lt) (fun x => x.lt)
set_option maxRecDepth 100000 in
set_option maxHeartbeats 2000000 in
theorem implEsc (s : ByteArray) (w : World) (hs : s.size ≤ maxLen) (he : Ent w) (hw : 2 < w.heap.size) :
    Calls Tryz.prog 108 #[.string s] w fun e w' => e = .returned (escVal s.data.toList) ∧ Below w.heap.size w w' := by
  unfold maxLen at hs
  by_cases h40 : 40 < s.size
  · have HW : Hid (escVal s.data.toList = .agg #[.int .i64 2, .string { data := #[] }]) := escVal_bad (v_many h40) (by decide)
    go_enter Tryz.func108, Tryz.ntmps108
    go_wp2
    exact bodyPost_ret (v := .agg #[.int .i64 2, .string { data := #[] }]) (by simp [results, Tryz.results108, go_sem]) rfl ⟨returned_agg HW.out.symm, (Below.refl _ _).alloc (Nat.le_refl _) _⟩
  · have HE : Hid (Ent w) := he
    clear he
    go_enter Tryz.func108, Tryz.ntmps108
    go_wp2_with fail
    go_loopw [11] (fun i wr => ∃ k : Nat, k ≤ s.size ∧ i = .int .i64 k ∧ plainAll (s.data.toList.take k) = true ∧ Lib.IsBuilderF 99 5 (w.heap.size + 1) (w.heap.size + 1) (Lib.byteCells (escAll (s.data.toList.take k))) wr ∧ Below (w.heap.size + 1) (w.alloc (.cells #[.int .i64 0, .string { data := #[] }] 36)) wr) (fun i _ => s.size - (intOf i).toNat)
    case atStart => exact ⟨0, Nat.zero_le _, rfl, rfl, fresh w _, (Below.refl _ _).alloc (by simp) _⟩
    case round =>
      obtain ⟨k, hk, rfl, ha, hI, hbl⟩ := hrel
      have HA : Hid (plainAll (s.data.toList.take k) = true) := ha
      clear ha
      have hl := escAll_take s k
      have hz := blt hI
      have HR : Hid (Ent wr) := hid (Ent.below (Ent.below HE.out ((Below.refl _ w).alloc (Nat.le_refl _) (.cells #[.int .i64 0, .string { data := #[] }] 36)) hw) hbl (by omega))
      by_cases hlt : k < s.size
      · cases hp : plainB s[k]
        · have HV : Hid (escVal s.data.toList = .agg #[.int .i64 5, .string { data := #[] }]) := escVal_bad (v_text h40 (plain_no s k hlt hp)) (by decide)
          have HP : Hid (plainB s[k] = false) := hp
          obtain ⟨hc, hf⟩ := bcell hbl
          clear hp
          go_wp2_with (go_at_call 124; refine (implPlain s[k] _).mono ?_; rintro e w' ⟨rfl, rfl⟩; rw [HP.out])
          refine bodyPost_ret (v := .agg #[.int .i64 5, .string { data := #[] }]) (by simp [results, Tryz.results108, go_sem, hc]) rfl ⟨returned_agg HV.out.symm, ?_⟩
          exact ((((Below.refl _ w).alloc (Nat.le_refl _) _).trans (hbl.mono (by omega))).setCell (by simp) _).setCell (by simp) _
        · have HS : Hid (plainAll (s.data.toList.take (k + 1)) = true) := plain_snoc s k hlt HA.out hp
          have HX : Hid (escAll (s.data.toList.take (k + 1)) = escAll (s.data.toList.take k) ++ esc s[k]) := escAll_snoc s k hlt
          have HP : Hid (plainB s[k] = true) := hp
          clear hp
          go_wp2_with fail
          refine (implPlain s[k] _).mono ?_
          rintro e w' ⟨rfl, rfl⟩
          rw [HP.out]
          go_wp2_with fail
          refine (writeEsc (w.heap.size + 1) (w.heap.size + 1) (escAll (s.data.toList.take k)) s[k] _ HR.out hI (by omega) (by omega)).mono ?_
          rintro e w2 ⟨rfl, hI2, hb2⟩
          go_wp2
          exact ⟨⟨k + 1, by omega, by go_num, HS.out, by rw [HX.out]; exact hI2, hbl.trans hb2⟩, by simp [intOf]; omega⟩
      · have HV : Hid (escVal s.data.toList = .agg #[.int .i64 0, .string ⟨(escAll s.data.toList).toArray⟩]) := escVal_ok (v_ok h40 (plain_end s k hlt HA.out))
        have HX : Hid (escAll (s.data.toList.take k) = escAll s.data.toList) := escAll_end s k hlt
        go_wp2_with fail
        refine (Tryz.Builder_String_any_k (w.heap.size + 1) (w.heap.size + 1) (escAll (s.data.toList.take k)) _ hI (by omega)).mono ?_
        rintro e w2 ⟨rfl, hI2, hb2, hk2⟩
        rw [HX.out]
        obtain ⟨hc, hf⟩ := bcell (hbl.trans hb2)
        have hz2 := blt hI2
        generalize escAll s.data.toList = x at *
        go_wp2
        refine bodyPost_ret (v := .agg #[.int .i64 0, .string ⟨x.toArray⟩]) (by simp [results, Tryz.results108, go_sem, hc]) rfl ⟨returned_agg HV.out.symm, ?_⟩
        exact ((((Below.refl _ w).alloc (Nat.le_refl _) _).trans ((hbl.trans hb2).mono (by omega))).setCell (by simp) _).setCell (by simp) _
end Esc
end Go.Proofs.YtgghigfflpbjiaaGreatDoor
