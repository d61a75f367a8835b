/- From a row's list of laid tables to the table of rules and the table of powers of ten; a world that holds the tables. -/
import Derived.Test.YtnbmpofmieagfaaGreatDoorJFnProcs22
import Derived.Test.YtnbmpofmieagfaaGreatDoorJFnProcs23
import Derived.Test.YtnbmpofmieagfaaGreatDoorCards
import Derived.Test.YtnbmpofmieagfaaGreatDoorTie
import Derived.ShutString
import Derived.ChangeOld
import Derived.Below
import Derived.OpenVars
import Derived.Deep.DeepHandedRow
import Derived.Lib.LaidTab
import Derived.LaidSub
namespace Go.Proofs.YtnbmpofmieagfaaGreatDoor
open Go.ChangeShapes Go.WideShapes Go.ChangeAt Go.RowKit
set_option linter.unusedVariables false
namespace Crd
open Pf (Rul ruleVals)
theorem own : ownKnob Tryz.prog.godebug = none := by kernel_rfl
theorem laidOut : laidOutB Tryz.prog = true := by kernel_rfl
theorem gTab : Tryz.prog.globalNamed "loop.example/g00343/impl.stepRules" = some 0 := by kernel_rfl
theorem gTabType : (Tryz.prog.globals[0]?).map (·.type) = some 141 := by kernel_rfl
theorem cellsTA : Tryz.prog.cellsOf 141 = 56 := by kernel_rfl
theorem cellsTE : Tryz.prog.cellsOf 100 = 7 := by kernel_rfl
theorem cells9 : Tryz.prog.cellsOf 9 = 1 := by kernel_rfl
theorem cells2 : Tryz.prog.cellsOf 2 = 1 := by kernel_rfl
theorem cells3 : Tryz.prog.cellsOf 3 = 1 := by kernel_rfl
theorem cells4 : Tryz.prog.cellsOf 4 = 1 := by kernel_rfl
set_option maxRecDepth 100000 in
/-- One row of the table: its seven cells. -/
theorem rule {H : Type} {enc : TypeId × Value → H} {w : World} {base : Nat} {sp : Nat → Bool} {held : Bool} {fuel : Nat} {cs : List Value} {l : List UInt8} {b1 b2 : Bool} {z3 z4 z5 z6 : Int} {p : List MemPlace}
    (h : DataW.trod enc Tryz.prog w base sp held fuel 100 cs = some (.agg [.lit (.string l), .lit (.bool b1), .lit (.bool b2), .lit (.int .i64 z3), .lit (.int .i64 z4), .lit (.int .i64 z5), .lit (.int .i64 z6)], p)) :
    cs = [.string ⟨l.toArray⟩, .bool b1, .bool b2, .int .i64 z3, .int .i64 z4, .int .i64 z5, .int .i64 z6] := by
  obtain ⟨xs, n, rfl, hx, hlen, hxl, hf⟩ := DataW.trod_struct Tryz.underlying100 h
  have h0 := hf 0 _ rfl
  have h1 := hf 1 _ rfl
  have h2 := hf 2 _ rfl
  have h3 := hf 3 _ rfl
  have h4 := hf 4 _ rfl
  have h5 := hf 5 _ rfl
  have h6 := hf 6 _ rfl
  rw [cellsTE] at hlen
  match cs, hlen with
  | [c0, c1, c2, c3, c4, c5, c6], _ =>
    match xs, hxl with
    | [x0, x1, x2, x3, x4, x5, x6], _ =>
      simp at h0 h1 h2 h3 h4 h5 h6 hx
      obtain ⟨s0, e0, f0, _⟩ := DataW.trod_string Tryz.underlying9 h0
      obtain ⟨d1, e1, f1⟩ := DataW.trod_bool Tryz.underlying4 h1
      obtain ⟨d2, e2, f2⟩ := DataW.trod_bool Tryz.underlying4 h2
      obtain ⟨n3, e3, f3, _⟩ := DataW.trod_int Tryz.underlying2 h3
      obtain ⟨n4, e4, f4, _⟩ := DataW.trod_int Tryz.underlying2 h4
      obtain ⟨n5, e5, f5, _⟩ := DataW.trod_int Tryz.underlying3 h5
      obtain ⟨n6, e6, f6, _⟩ := DataW.trod_int Tryz.underlying3 h6
      subst f0 f1 f2 f3 f4 f5 f6
      rw [cells9] at e0
      rw [cells4] at e1 e2
      rw [cells2] at e3 e4
      rw [cells3] at e5 e6
      simp at e0 e1 e2 e3 e4 e5 e6 hx
      obtain ⟨⟨g0, g1, g2, g3, g4, g5, g6⟩, _⟩ := hx
      subst e0 e1 e2 e3 e4 e5 e6 g1 g2 g3 g4 g5 g6
      rw [g0]
set_option maxRecDepth 100000 in
theorem var_tab {W : World} (h : laidMetH Tryz.prog [("loop.example/g00343/impl.stepRules", Rows.laid_loop_example_g00343_impl_stepRules)] W) : ∃ cs, W.var? Tryz.prog "loop.example/g00343/impl.stepRules" = some cs ∧ cs.toList = ruleVals := by
  obtain ⟨ps, ⟨g', t', cs, fuel, p, q, hg', ht', hvar, hd, _, _⟩, _⟩ := h
  obtain rfl := Option.some.inj (gTab.symm.trans hg')
  obtain rfl := Option.some.inj (gTabType.symm.trans ht')
  refine ⟨cs, hvar, ?_⟩
  obtain ⟨xs, m, rfl, hx, hlen, hxl, hf⟩ := DataW.trod_array Tryz.underlying141 hd
  have f0 := hf 0 (by decide)
  have f1 := hf 1 (by decide)
  have f2 := hf 2 (by decide)
  have f3 := hf 3 (by decide)
  have f4 := hf 4 (by decide)
  have f5 := hf 5 (by decide)
  have f6 := hf 6 (by decide)
  have f7 := hf 7 (by decide)
  rw [cellsTE] at f0 f1 f2 f3 f4 f5 f6 f7
  rw [cellsTA] at hlen
  match xs, hxl with
  | [x0, x1, x2, x3, x4, x5, x6, x7], _ =>
    obtain ⟨d0, p0⟩ := x0
    obtain ⟨d1, p1⟩ := x1
    obtain ⟨d2, p2⟩ := x2
    obtain ⟨d3, p3⟩ := x3
    obtain ⟨d4, p4⟩ := x4
    obtain ⟨d5, p5⟩ := x5
    obtain ⟨d6, p6⟩ := x6
    obtain ⟨d7, p7⟩ := x7
    simp only [Rows.laid_loop_example_g00343_impl_stepRules, List.map_cons, List.map_nil, Prod.mk.injEq, DataW.agg.injEq, List.cons.injEq, and_true] at hx
    obtain ⟨⟨rfl, rfl, rfl, rfl, rfl, rfl, rfl, rfl⟩, _⟩ := hx
    generalize cs.toList = l at *
    have g0 := rule f0
    have g1 := rule f1
    have g2 := rule f2
    have g3 := rule f3
    have g4 := rule f4
    have g5 := rule f5
    have g6 := rule f6
    have g7 := rule f7
    have cut : ∀ n, l.drop n = (l.drop n).take 7 ++ l.drop (n + 7) := fun n => by
      have h := (List.take_append_drop 7 (l.drop n)).symm
      rw [List.drop_drop] at h
      exact h
    have h56 : l.drop 56 = [] := List.drop_eq_nil_of_le (by omega)
    have hl : l = (l.drop 0).take 7 ++ ((l.drop 7).take 7 ++ ((l.drop 14).take 7 ++ ((l.drop 21).take 7 ++ ((l.drop 28).take 7 ++ ((l.drop 35).take 7 ++ ((l.drop 42).take 7 ++ ((l.drop 49).take 7))))))) := (cut 0).trans (congrArg (fun x => (l.drop 0).take 7 ++ x) ((cut 7).trans (congrArg (fun x => (l.drop 7).take 7 ++ x) ((cut 14).trans (congrArg (fun x => (l.drop 14).take 7 ++ x) ((cut 21).trans (congrArg (fun x => (l.drop 21).take 7 ++ x) ((cut 28).trans (congrArg (fun x => (l.drop 28).take 7 ++ x) ((cut 35).trans (congrArg (fun x => (l.drop 35).take 7 ++ x) ((cut 42).trans (congrArg (fun x => (l.drop 42).take 7 ++ x) ((cut 49).trans (by rw [h56, List.append_nil])))))))))))))))
    rw [hl]
    simp only [Nat.reduceMul] at g0 g1 g2 g3 g4 g5 g6 g7
    rw [g0, g1, g2, g3, g4, g5, g6, g7]
    rfl
set_option maxRecDepth 100000 in
theorem rul_of {W : World} (h : laidMetH Tryz.prog [("loop.example/g00343/impl.stepRules", Rows.laid_loop_example_g00343_impl_stepRules)] W) : Rul W := by
  obtain ⟨cs, hv, hcs⟩ := var_tab h
  intro i hi
  rw [World.var?_cell gTab hv i, ← hcs]
  simp
theorem pTab : Tryz.prog.globalNamed "internal/strconv.uint64pow10" = some 2 := by kernel_rfl
theorem pTabType : (Tryz.prog.globals[2]?).map (·.type) = some 176 := by kernel_rfl
theorem pcellsT : Tryz.prog.cellsOf 176 = 20 := by kernel_rfl
theorem pcellsE : Tryz.prog.cellsOf 133 = 1 := by kernel_rfl
theorem tab_is : Rows.laid_internal_strconv_uint64pow10 = (Lib.tabData .u64 Lib.pow10Tab : DataW Unit) := by kernel_rfl
def isPow (x : String × DataW Unit) : Bool := x.1 == "internal/strconv.uint64pow10"
/-- From the row's list to the table that the walk reads. -/
theorem tab_of {W : World} {l : List (String × DataW Unit)} (h : laidMetH Tryz.prog l W) (hl : l.filter isPow = [("internal/strconv.uint64pow10", Rows.laid_internal_strconv_uint64pow10)]) : Ex.Tab W := by
  have h1 := h.filter isPow
  rw [hl, tab_is] at h1
  have h2 : laidMet Tryz.prog [("internal/strconv.uint64pow10", Lib.tabData .u64 Lib.pow10Tab)] W := h1
  exact Lib.tabIs_of_head pTab pTabType Tryz.underlying176 Tryz.underlying133 pcellsE pcellsT h2
def one : DataW Unit → Value
  | .lit (.int k z) => .int k z
  | _ => .bool false
def flat1 : DataW Unit → List Value
  | .agg l => l.map one
  | _ => []
def put (a : List Value) : Obj → Obj
  | .cells _ t frozen => .cells a.toArray t frozen
  | o => o
def isRul (x : String × DataW Unit) : Bool := x.1 == "loop.example/g00343/impl.stepRules"
theorem rul_in {W : World} {l : List (String × DataW Unit)} (h : laidMetH Tryz.prog l W) (hl : l.filter isRul = [("loop.example/g00343/impl.stepRules", Rows.laid_loop_example_g00343_impl_stepRules)]) : Rul W := by
  have h1 := h.filter isRul
  rw [hl] at h1
  exact rul_of h1
/-- A world for the witness: the settled one, the tables holding what their initialisers lay. -/
def laidHeap (h0 : Array Obj) : Array Obj :=
  let h1 := h0.modify 2 (put (flat1 Rows.laid_internal_strconv_uint64pow10))
  let h2 := h1.modify 3 (put (flat1 Rows.laid_math_bits_deBruijn32tab))
  let h3 := h2.modify 4 (put (flat1 Rows.laid_math_bits_deBruijn64tab))
  h3.modify 0 (put ruleVals)
def laidOver (w : World) : World := { w with heap := laidHeap w.heap }
end Crd
end Go.Proofs.YtnbmpofmieagfaaGreatDoor
