/- Cells of a boxed graph, and of two. -/
import Derived.Test.YtepfkfhbkbkepaaDoorGrA
namespace Go.Proofs.YtepfkfhbkbkepaaDoor
open Go.RowKit
set_option linter.unusedVariables false
namespace Gr
open Rc
structure One (w : World) (P : Nat) (a b : Value) : Prop where
  c0 : w.cell? ⟨P, 0, none⟩ = some a
  c1 : w.cell? ⟨P, 1, none⟩ = some b
  lp : P < w.heap.size
theorem One.below {w w' : World} {P : Nat} {a b : Value} (h : One w P a b) (hb : Below w.heap.size w w') : One w' P a b := ⟨old_cell hb h.lp h.c0, old_cell hb h.lp h.c1, Nat.lt_of_lt_of_le h.lp hb.size⟩
structure Two (w : World) (P Q : Nat) (a b c d : Value) : Prop where
  c0 : w.cell? ⟨P, 0, none⟩ = some a
  c1 : w.cell? ⟨P, 1, none⟩ = some b
  d0 : w.cell? ⟨Q, 0, none⟩ = some c
  d1 : w.cell? ⟨Q, 1, none⟩ = some d
  lp : P < w.heap.size
  lq : Q < w.heap.size
theorem Two.below {w w' : World} {P Q : Nat} {a b c d : Value} (h : Two w P Q a b c d) (hb : Below w.heap.size w w') : Two w' P Q a b c d := ⟨old_cell hb h.lp h.c0, old_cell hb h.lp h.c1, old_cell hb h.lq h.d0, old_cell hb h.lq h.d1, Nat.lt_of_lt_of_le h.lp hb.size, Nat.lt_of_lt_of_le h.lq hb.size⟩
theorem Two.drew {w : World} {P Q : Nat} {a b c d : Value} (h : Two w P Q a b c d) : Two w.drew P Q a b c d := ⟨h.c0, h.c1, h.d0, h.d1, h.lp, h.lq⟩
theorem Two.one {w : World} {P Q : Nat} {a b c d : Value} (h : Two w P Q a b c d) : One w P a b := ⟨h.c0, h.c1, h.lp⟩
end Gr
end Go.Proofs.YtepfkfhbkbkepaaDoor
