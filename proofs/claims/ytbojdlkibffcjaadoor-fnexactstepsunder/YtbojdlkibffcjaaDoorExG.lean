/- The specification's EvalExpr: one node of two numbers. -/
import Derived.Test.YtbojdlkibffcjaaDoorExF
namespace Go.Proofs.YtbojdlkibffcjaaDoor
open Go.RowKit
set_option linter.unusedVariables false
namespace Ex
open Nd (NodeD)
def bit (b : Bool) : Int := if b then 1 else 0
def oneVal (k a b : Int) : Int :=
  if k = 3 then a + b else if k = 4 then a - b else if k = 5 then a * b else if k = 6 then (if b = 0 then 0 else a.tdiv b) else if k = 7 then bit (decide (a < b)) else if k = 8 then bit (a == b) else if k = 9 then a * b else 1 - a
def oneOk (k a b : Int) : Bool := !((k == 6) && (b == 0)) && inR (oneVal k a b) (-1000000) 1000000
theorem mul_le {a b : Int} (h1 : -1000000 ≤ a) (h2 : a ≤ 1000000) (h3 : -1000000 ≤ b) (h4 : b ≤ 1000000) : -1000000000000 ≤ a * b ∧ a * b ≤ 1000000000000 := by
  have h : (a * b).natAbs ≤ 1000000 * 1000000 := by
    rw [Int.natAbs_mul]
    exact Nat.mul_le_mul (by omega) (by omega)
  omega
theorem div_le {a b : Int} (h1 : -1000000 ≤ a) (h2 : a ≤ 1000000) : -1000000 ≤ a.tdiv b ∧ a.tdiv b ≤ 1000000 := by
  have h : (a.tdiv b).natAbs ≤ a.natAbs := by
    rw [Int.natAbs_tdiv]
    exact Nat.div_le_self _ _
  omega
end Ex
end Go.Proofs.YtbojdlkibffcjaaDoor
