/- From a row's list of laid tables to the tables of rules, of powers of ten and of entities; a world that holds the tables. -/
import Derived.Test.YtgghigfflpbjiaaGreatDoorCard3
import Derived.Test.YtgghigfflpbjiaaGreatDoorEsc2
namespace Go.Proofs.YtgghigfflpbjiaaGreatDoor
open Go.ChangeShapes Go.WideShapes Go.ChangeAt Go.RowKit
set_option linter.unusedVariables false
namespace Crd4
open Esc (Ent entVals entArr)
theorem ent_lt {w : World} (h : Ent w) : 2 < w.heap.size := by
  have h0 := h 0 (by decide)
  rcases Nat.lt_or_ge 2 w.heap.size with h1 | h1
  · exact h1
  · simp [World.cell?, Array.getElem?_eq_none h1, entVals] at h0
theorem gTab : Tryz.prog.globalNamed "loop.example/g00343/impl.entities" = some 2 := by kernel_rfl
theorem gTabType : (Tryz.prog.globals[2]?).map (·.type) = some 206 := by kernel_rfl
theorem cellsTA : Tryz.prog.cellsOf 206 = 15 := by kernel_rfl
theorem cellsTE : Tryz.prog.cellsOf 205 = 3 := by kernel_rfl
theorem cells9 : Tryz.prog.cellsOf 9 = 1 := by kernel_rfl
theorem cells5 : Tryz.prog.cellsOf 5 = 1 := by kernel_rfl
theorem cells4 : Tryz.prog.cellsOf 4 = 1 := by kernel_rfl
set_option maxRecDepth 100000 in
/-- One row of the table: its three cells. -/
theorem entity {H : Type} {enc : TypeId × Value → H} {w : World} {base : Nat} {sp : Nat → Bool} {held : Bool} {fuel : Nat} {cs : List Value} {l : List UInt8} {z : Int} {b : Bool} {p : List MemPlace}
    (h : DataW.trod enc Tryz.prog w base sp held fuel 205 cs = some (.agg [.lit (.string l), .lit (.int .u8 z), .lit (.bool b)], p)) :
    cs = [.string ⟨l.toArray⟩, .int .u8 z, .bool b] := by
  obtain ⟨xs, n, rfl, hx, hlen, hxl, hf⟩ := DataW.trod_struct Tryz.underlying205 h
  have h0 := hf 0 _ rfl
  have h1 := hf 1 _ rfl
  have h2 := hf 2 _ rfl
  rw [cellsTE] at hlen
  match cs, hlen with
  | [a, b', c], _ =>
    match xs, hxl with
    | [x0, x1, x2], _ =>
      simp at h0 h1 h2 hx
      obtain ⟨s0, e0, f0, _⟩ := DataW.trod_string Tryz.underlying9 h0
      obtain ⟨n1, e1, f1, _⟩ := DataW.trod_int Tryz.underlying5 h1
      obtain ⟨b2, e2, f2⟩ := DataW.trod_bool Tryz.underlying4 h2
      subst f0 f1 f2
      rw [cells9] at e0
      rw [cells5] at e1
      rw [cells4] at e2
      simp at e0 e1 e2 hx
      obtain ⟨⟨g0, g1, g2⟩, _⟩ := hx
      subst e0 e1 e2 g1 g2
      rw [g0]
set_option maxRecDepth 100000 in
theorem var_ent {W : World} (h : laidMetH Tryz.prog [("loop.example/g00343/impl.entities", Rows.laid_loop_example_g00343_impl_entities)] W) : ∃ cs, W.var? Tryz.prog "loop.example/g00343/impl.entities" = some cs ∧ cs.toList = entVals := by
  obtain ⟨ps, ⟨g', t', cs, fuel, p, q, hg', ht', hvar, hd, _, _⟩, _⟩ := h
  obtain rfl := Option.some.inj (gTab.symm.trans hg')
  obtain rfl := Option.some.inj (gTabType.symm.trans ht')
  refine ⟨cs, hvar, ?_⟩
  obtain ⟨xs, m, rfl, hx, hlen, hxl, hf⟩ := DataW.trod_array Tryz.underlying206 hd
  have f0 := hf 0 (by decide)
  have f1 := hf 1 (by decide)
  have f2 := hf 2 (by decide)
  have f3 := hf 3 (by decide)
  have f4 := hf 4 (by decide)
  rw [cellsTE] at f0 f1 f2 f3 f4
  rw [cellsTA] at hlen
  match xs, hxl with
  | [x0, x1, x2, x3, x4], _ =>
    obtain ⟨d0, p0⟩ := x0
    obtain ⟨d1, p1⟩ := x1
    obtain ⟨d2, p2⟩ := x2
    obtain ⟨d3, p3⟩ := x3
    obtain ⟨d4, p4⟩ := x4
    simp only [Rows.laid_loop_example_g00343_impl_entities, List.map_cons, List.map_nil, Prod.mk.injEq, DataW.agg.injEq, List.cons.injEq, and_true] at hx
    obtain ⟨⟨rfl, rfl, rfl, rfl, rfl⟩, _⟩ := hx
    generalize cs.toList = l at *
    have g0 := entity f0
    have g1 := entity f1
    have g2 := entity f2
    have g3 := entity f3
    have g4 := entity f4
    have hl : l = (l.drop 0).take 3 ++ ((l.drop 3).take 3 ++ ((l.drop 6).take 3 ++ ((l.drop 9).take 3 ++ (l.drop 12).take 3))) := by
      match l, hlen with
      | [a0, a1, a2, a3, a4, a5, a6, a7, a8, a9, a10, a11, a12, a13, a14], _ => rfl
    rw [hl]
    simp only [Nat.reduceMul] at g0 g1 g2 g3 g4
    rw [g0, g1, g2, g3, g4]
    rfl
set_option maxRecDepth 100000 in
theorem ent_of {W : World} (h : laidMetH Tryz.prog [("loop.example/g00343/impl.entities", Rows.laid_loop_example_g00343_impl_entities)] W) : Ent W := by
  obtain ⟨cs, hv, hcs⟩ := var_ent h
  intro i hi
  rw [World.var?_cell gTab hv i, ← hcs]
  simp
def isEnt (x : String × DataW Unit) : Bool := x.1 == "loop.example/g00343/impl.entities"
theorem ent_in {W : World} {l : List (String × DataW Unit)} (h : laidMetH Tryz.prog l W) (hl : l.filter isEnt = [("loop.example/g00343/impl.entities", Rows.laid_loop_example_g00343_impl_entities)]) : Ent W := by
  have h1 := h.filter isEnt
  rw [hl] at h1
  exact ent_of h1
def laidOver (w : World) : World := { w with heap := (Crd.laidHeap w.heap).modify 2 (Crd.put entVals) }
end Crd4
end Go.Proofs.YtgghigfflpbjiaaGreatDoor
