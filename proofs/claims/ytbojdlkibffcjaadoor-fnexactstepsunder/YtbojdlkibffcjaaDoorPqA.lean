/- DeepOf, of the specification and of the program. Condition of the second: the table of rules lies as its initialiser lays it. -/
import Derived.Test.YtbojdlkibffcjaaDoorPsC
import Derived.Test.YtbojdlkibffcjaaDoorPiE
namespace Go.Proofs.YtbojdlkibffcjaaDoor
open Go.RowKit
set_option linter.unusedVariables false
namespace Pf
open Ex (hid inR eFault)
open Nd (NodeD)
open St (StepD)
open Tr (Chain cutTo onPath top nf ElemD)
def deepN (ss : List StepD) : Nat → Nat
  | 0 => 0
  | n + 1 => max (deepN ss n) (path ss (n + 1)).length
def deepV (ss : List StepD) : Int := if pFault ss = 0 then (deepN ss ss.length : Int) else 0
theorem deepV_ok {ss : List StepD} (h : pFault ss = 0) : deepV ss = (deepN ss ss.length : Int) := by unfold deepV; rw [if_pos h]
theorem deepV_bad {ss : List StepD} (h : pFault ss ≠ 0) : deepV ss = 0 := by unfold deepV; rw [if_neg h]
theorem deep_le {ss : List StepD} (h : firstC (oneC ss) ss.length = 0) : ∀ {n : Nat}, n ≤ ss.length → deepN ss n ≤ 7
  | 0, _ => Nat.zero_le _
  | n + 1, hn => by
    have h1 := deep_le h (n := n) (by omega)
    have h2 := (walked hn (first_to h hn)).deep
    rw [deepN]
    omega
theorem kept_cell {B : Nat} {W w : World} (h : Below B W w) {b o : Nat} (hb : b < B) {v : Value} (hc : W.cell? ⟨b, o, none⟩ = some v) : w.cell? ⟨b, o, none⟩ = some v := (h.cell (p := ⟨b, o, none⟩) hb).trans hc
theorem kept_free {B : Nat} {W w : World} (h : Below B W w) {b o : Nat} (hb : b < B) (hc : W.frozen? ⟨b, o, none⟩ = false) : w.frozen? ⟨b, o, none⟩ = false := (h.frozen (p := ⟨b, o, none⟩) hb).trans hc
theorem ret2 {c d e f : Int} (h : c = d) (h2 : e = f) : Ending.returned (.agg #[.int .i64 c, .int .i64 e]) = .returned (.agg #[.int .i64 d, .int .i64 f]) := by rw [h, h2]
theorem specDeepAt (B : Nat) (ss : List StepD) (v : Value) (i : Nat) (w : World) (hl : ss.length ≤ 24) (hi : i < ss.length) (h1 : firstC (oneC ss) ss.length = 0) (ha : St.At w B v ss) :
    Calls Tryd.prog 31 #[v, .int .i64 (i : Int)] w fun e w' => e = .returned (.int .i64 ((path ss (i + 1)).length : Int)) ∧ w' = w := by
  have W := walked (ss := ss) (i := i + 1) (by omega) (first_to h1 (by omega))
  have h := specDeep B ss v (path ss (i + 1)) w hl W.chain (by have := W.deep; omega) ha
  rw [W.first] at h
  rw [show ((i + 1 : Nat) : Int) - 1 = (i : Int) by omega] at h
  exact h
end Pf
end Go.Proofs.YtbojdlkibffcjaaDoor
