/- From a row's list to the cells of the tables of rules of steps and of nodes; a world that holds the tables. -/
import Derived.Test.YtfgckeoigkoflaaGreatDoorJGraphOf3
import Derived.Test.YtfgckeoigkoflaaGreatDoorJGraphOf9
import Derived.Test.YtfgckeoigkoflaaGreatDoorCards
import Derived.Test.YtfgckeoigkoflaaGreatDoorTie
import Derived.ShutString
import Derived.ChangeOld
import Derived.Below
import Derived.OpenVars
import Derived.Deep.DeepHandedRow
import Derived.Lib.LaidTab
namespace Go.Proofs.YtfgckeoigkoflaaGreatDoor
open Go.ChangeShapes Go.WideShapes Go.ChangeAt Go.RowKit
set_option linter.unusedVariables false
namespace Crd8
open Gr (NRul nruleVals)
theorem gTab : Tryz.prog.globalNamed "loop.example/g00343/impl.nodeRules" = some 0 := by kernel_rfl
theorem gTabType : (Tryz.prog.globals[0]?).map (·.type) = some 143 := by kernel_rfl
theorem cellsTA : Tryz.prog.cellsOf 143 = 65 := by kernel_rfl
theorem cellsTE : Tryz.prog.cellsOf 92 = 5 := by kernel_rfl
theorem cells9 : Tryz.prog.cellsOf 9 = 1 := by kernel_rfl
theorem cells4 : Tryz.prog.cellsOf 4 = 1 := by kernel_rfl
set_option maxRecDepth 100000 in
/-- One row of the table: its cells. -/
theorem rule {H : Type} {enc : TypeId × Value → H} {w : World} {base : Nat} {sp : Nat → Bool} {held : Bool} {fuel : Nat} {cs : List Value} {l : List UInt8} {b1 b2 b3 b4 : Bool} {p : List MemPlace}
    (h : DataW.trod enc Tryz.prog w base sp held fuel 92 cs = some (.agg [.lit (.string l), .lit (.bool b1), .lit (.bool b2), .lit (.bool b3), .lit (.bool b4)], p)) :
    cs = [.string ⟨l.toArray⟩, .bool b1, .bool b2, .bool b3, .bool b4] := by
  obtain ⟨xs, n, rfl, hx, hlen, hxl, hf⟩ := DataW.trod_struct Tryz.underlying92 h
  have h0 := hf 0 _ rfl
  have h1 := hf 1 _ rfl
  have h2 := hf 2 _ rfl
  have h3 := hf 3 _ rfl
  have h4 := hf 4 _ rfl
  rw [cellsTE] at hlen
  match cs, hlen with
  | [c0, c1, c2, c3, c4], _ =>
    match xs, hxl with
    | [x0, x1, x2, x3, x4], _ =>
      simp at h0 h1 h2 h3 h4 hx
      obtain ⟨s0, e0, f0, _⟩ := DataW.trod_string Tryz.underlying9 h0
      obtain ⟨d1, e1, f1⟩ := DataW.trod_bool Tryz.underlying4 h1
      obtain ⟨d2, e2, f2⟩ := DataW.trod_bool Tryz.underlying4 h2
      obtain ⟨d3, e3, f3⟩ := DataW.trod_bool Tryz.underlying4 h3
      obtain ⟨d4, e4, f4⟩ := DataW.trod_bool Tryz.underlying4 h4
      subst f0 f1 f2 f3 f4
      rw [cells9] at e0
      rw [cells4] at e1 e2 e3 e4
      simp at e0 e1 e2 e3 e4 hx
      obtain ⟨⟨g0, g1, g2, g3, g4⟩, _⟩ := hx
      subst e0 e1 e2 e3 e4 g1 g2 g3 g4
      rw [g0]
set_option maxRecDepth 100000 in
theorem var_tab {W : World} (h : laidMetH Tryz.prog [("loop.example/g00343/impl.nodeRules", Rows.laid_loop_example_g00343_impl_nodeRules)] W) : ∃ cs, W.var? Tryz.prog "loop.example/g00343/impl.nodeRules" = some cs ∧ cs.toList = nruleVals := by
  obtain ⟨ps, ⟨g', t', cs, fuel, p, q, hg', ht', hvar, hd, _, _⟩, _⟩ := h
  obtain rfl := Option.some.inj (gTab.symm.trans hg')
  obtain rfl := Option.some.inj (gTabType.symm.trans ht')
  refine ⟨cs, hvar, ?_⟩
  obtain ⟨xs, m, rfl, hx, hlen, hxl, hf⟩ := DataW.trod_array Tryz.underlying143 hd
  have f0 := hf 0 (by decide)
  have f1 := hf 1 (by decide)
  have f2 := hf 2 (by decide)
  have f3 := hf 3 (by decide)
  have f4 := hf 4 (by decide)
  have f5 := hf 5 (by decide)
  have f6 := hf 6 (by decide)
  have f7 := hf 7 (by decide)
  have f8 := hf 8 (by decide)
  have f9 := hf 9 (by decide)
  have f10 := hf 10 (by decide)
  have f11 := hf 11 (by decide)
  have f12 := hf 12 (by decide)
  rw [cellsTE] at f0 f1 f2 f3 f4 f5 f6 f7 f8 f9 f10 f11 f12
  rw [cellsTA] at hlen
  match xs, hxl with
  | [x0, x1, x2, x3, x4, x5, x6, x7, x8, x9, x10, x11, x12], _ =>
    obtain ⟨d0, p0⟩ := x0
    obtain ⟨d1, p1⟩ := x1
    obtain ⟨d2, p2⟩ := x2
    obtain ⟨d3, p3⟩ := x3
    obtain ⟨d4, p4⟩ := x4
    obtain ⟨d5, p5⟩ := x5
    obtain ⟨d6, p6⟩ := x6
    obtain ⟨d7, p7⟩ := x7
    obtain ⟨d8, p8⟩ := x8
    obtain ⟨d9, p9⟩ := x9
    obtain ⟨d10, p10⟩ := x10
    obtain ⟨d11, p11⟩ := x11
    obtain ⟨d12, p12⟩ := x12
    simp only [Rows.laid_loop_example_g00343_impl_nodeRules, List.map_cons, List.map_nil, Prod.mk.injEq, DataW.agg.injEq, List.cons.injEq, and_true] at hx
    obtain ⟨⟨rfl, rfl, rfl, rfl, rfl, rfl, rfl, rfl, rfl, rfl, rfl, rfl, rfl⟩, _⟩ := hx
    generalize cs.toList = l at *
    have g0 := rule f0
    have g1 := rule f1
    have g2 := rule f2
    have g3 := rule f3
    have g4 := rule f4
    have g5 := rule f5
    have g6 := rule f6
    have g7 := rule f7
    have g8 := rule f8
    have g9 := rule f9
    have g10 := rule f10
    have g11 := rule f11
    have g12 := rule f12
    have cut : ∀ n, l.drop n = (l.drop n).take 5 ++ l.drop (n + 5) := fun n => by
      have h := (List.take_append_drop 5 (l.drop n)).symm
      rw [List.drop_drop] at h
      exact h
    have hend : l.drop 65 = [] := List.drop_eq_nil_of_le (by omega)
    have hl : l = (l.drop 0).take 5 ++ ((l.drop 5).take 5 ++ ((l.drop 10).take 5 ++ ((l.drop 15).take 5 ++ ((l.drop 20).take 5 ++ ((l.drop 25).take 5 ++ ((l.drop 30).take 5 ++ ((l.drop 35).take 5 ++ ((l.drop 40).take 5 ++ ((l.drop 45).take 5 ++ ((l.drop 50).take 5 ++ ((l.drop 55).take 5 ++ (((l.drop 60).take 5))))))))))))) := (cut 0).trans (congrArg (fun x => (l.drop 0).take 5 ++ x) ((cut 5).trans (congrArg (fun x => (l.drop 5).take 5 ++ x) ((cut 10).trans (congrArg (fun x => (l.drop 10).take 5 ++ x) ((cut 15).trans (congrArg (fun x => (l.drop 15).take 5 ++ x) ((cut 20).trans (congrArg (fun x => (l.drop 20).take 5 ++ x) ((cut 25).trans (congrArg (fun x => (l.drop 25).take 5 ++ x) ((cut 30).trans (congrArg (fun x => (l.drop 30).take 5 ++ x) ((cut 35).trans (congrArg (fun x => (l.drop 35).take 5 ++ x) ((cut 40).trans (congrArg (fun x => (l.drop 40).take 5 ++ x) ((cut 45).trans (congrArg (fun x => (l.drop 45).take 5 ++ x) ((cut 50).trans (congrArg (fun x => (l.drop 50).take 5 ++ x) ((cut 55).trans (congrArg (fun x => (l.drop 55).take 5 ++ x) ((cut 60).trans (by rw [hend, List.append_nil])))))))))))))))))))))))))
    rw [hl]
    simp only [Nat.reduceMul] at g0 g1 g2 g3 g4 g5 g6 g7 g8 g9 g10 g11 g12
    rw [g0, g1, g2, g3, g4, g5, g6, g7, g8, g9, g10, g11, g12]
    rfl
set_option maxRecDepth 100000 in
theorem rul_of {W : World} (h : laidMetH Tryz.prog [("loop.example/g00343/impl.nodeRules", Rows.laid_loop_example_g00343_impl_nodeRules)] W) : NRul W := by
  obtain ⟨cs, hv, hcs⟩ := var_tab h
  intro i hi
  rw [World.var?_cell gTab hv i, ← hcs]
  simp
def isRul (x : String × DataW Unit) : Bool := x.1 == "loop.example/g00343/impl.stepRules"
theorem rul_in {W : World} {l : List (String × DataW Unit)} (h : laidMetH Tryz.prog l W) (hl : l.filter isRul = [("loop.example/g00343/impl.stepRules", Rows.laid_loop_example_g00343_impl_stepRules)]) : Pf.Rul W := by
  have h1 := h.filter isRul
  rw [hl] at h1
  exact Crd.rul_of h1
def isNRul (x : String × DataW Unit) : Bool := x.1 == "loop.example/g00343/impl.nodeRules"
theorem nrul_in {W : World} {l : List (String × DataW Unit)} (h : laidMetH Tryz.prog l W) (hl : l.filter isNRul = [("loop.example/g00343/impl.nodeRules", Rows.laid_loop_example_g00343_impl_nodeRules)]) : NRul W := by
  have h1 := h.filter isNRul
  rw [hl] at h1
  exact rul_of h1
def put (a : List Value) : Obj → Obj
  | .cells _ t frozen => .cells a.toArray t frozen
  | o => o
/-- A world for the witness: the settled one, the tables holding what their initialisers lay. -/
def laidOver (w : World) : World := { w with heap := (Crd.laidHeap w.heap).modify 0 (put nruleVals) }
end Crd8
end Go.Proofs.YtfgckeoigkoflaaGreatDoor
