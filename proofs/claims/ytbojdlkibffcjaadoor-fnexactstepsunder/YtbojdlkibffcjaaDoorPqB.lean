/- LeavesOf, of the specification and of the program. Condition of the second: the table of rules lies as its initialiser lays it. -/
import Derived.Test.YtbojdlkibffcjaaDoorPqA
import Derived.Test.YtbojdlkibffcjaaDoorIntsX
namespace Go.Proofs.YtbojdlkibffcjaaDoor
open Go.RowKit
set_option linter.unusedVariables false
namespace Pf
open Ex (hid inR eFault)
open Nd (NodeD)
open St (StepD)
open Tr (Chain cutTo onPath top nf ElemD)
open Pt (kidVals infoI64 info_parts)
open Ints (vals IntsAt)
def intsOf (l : List Nat) : List Int := l.map fun (n : Nat) => (n : Int)
theorem kidVals_eq (l : List Nat) : kidVals l = vals (intsOf l) := by simp [kidVals, vals, intsOf]
theorem intsOf_len (l : List Nat) : (intsOf l).length = l.length := by simp [intsOf]
def leafK (k : Int) : Bool := (k == 2) || (k == 5) || (k == 6)
def leavesN (ss : List StepD) (n : Nat) : List Nat := (List.range n).filter fun i => leafK (PJ ss i).kind
theorem leavesN_succ (ss : List StepD) (n : Nat) : leavesN ss (n + 1) = leavesN ss n ++ (if leafK (PJ ss n).kind = true then [n] else []) := by
  unfold leavesN
  rw [List.range_succ, List.filter_append]
  congr 1
  cases h : leafK (PJ ss n).kind
  · simp [h]
  · simp [h]
theorem leavesN_le (ss : List StepD) (n : Nat) : (leavesN ss n).length ≤ n := by
  unfold leavesN
  have := List.length_filter_le (fun i => leafK (PJ ss i).kind) (List.range n)
  simpa using this
def leavesL (ss : List StepD) : List Int := if pFault ss = 0 then intsOf (leavesN ss ss.length) else []
theorem leaves_ok {ss : List StepD} (h : pFault ss = 0) : leavesL ss = intsOf (leavesN ss ss.length) := by unfold leavesL; rw [if_pos h]
theorem leaves_bad {ss : List StepD} (h : pFault ss ≠ 0) : leavesL ss = [] := by unfold leavesL; rw [if_neg h]
theorem leavesL_len {ss : List StepD} : (leavesL ss).length ≤ ss.length := by
  unfold leavesL
  split
  · rw [intsOf_len]; exact leavesN_le ss ss.length
  · exact Nat.zero_le _
/-- What a function answers that answers a list of numbers. -/
def IPost (c : Int) (l : List Int) (w : World) (e : Ending) (w' : World) : Prop :=
  (∃ u, e = .returned (.agg #[.int .i64 c, u]) ∧ w'.ownsRow (w.heap.size + 1) 2 1 u l.length (vals l)) ∧ Below w.heap.size w w'
theorem retI {c d : Int} {v : Value} (h : c = d) : Ending.returned (.agg #[.int .i64 c, v]) = .returned (.agg #[.int .i64 d, v]) := by rw [h]
theorem own_set {w : World} {B n b c : Nat} {v u : Value} {xs : List Value} (h : w.ownsRow B 2 1 v n xs) (hb : b < B) : (w.setCell ⟨b, c, none⟩ u).ownsRow B 2 1 v n xs := ownsRow_setCell_below h (a := ⟨b, c, none⟩) hb u
theorem own_mono {w : World} {B B' n : Nat} {e : TypeId} {sz : Nat} {v : Value} {xs : List Value} (h : w.ownsRow B e sz v n xs) (hb : B' ≤ B) : w.ownsRow B' e sz v n xs := by
  refine ⟨h.1, ?_⟩
  rcases h.2 with h | ⟨g, cap, cur, rfl, h1, r⟩
  · exact .inl h
  · exact .inr ⟨g, cap, cur, rfl, Nat.le_trans hb h1, r⟩
end Pf
end Go.Proofs.YtbojdlkibffcjaaDoor
