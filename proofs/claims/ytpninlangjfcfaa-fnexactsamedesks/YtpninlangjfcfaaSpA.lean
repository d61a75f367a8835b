/- Whether two lists of steps are the same, as the program tells it. -/
import Derived.Test.YtpninlangjfcfaaStA
import Derived.Test.YtpninlangjfcfaaNdQ
namespace Go.Proofs.Ytpninlangjfcfaa
open Go.RowKit
set_option linter.unusedVariables false
namespace St
open Ex (hid)
open Nd (NodeD nodeEq neqNode nd_guard below_drewN)
def listEq {α : Type} (f : α → α → Bool) : List α → List α → Bool
  | [], [] => true
  | a :: r, b :: s => f a b && listEq f r s
  | _, _ => false
theorem listEq_len {α : Type} {f : α → α → Bool} : ∀ {l m : List α}, l.length ≠ m.length → listEq f l m = false
  | [], [], h => absurd rfl h
  | [], b :: s, _ => rfl
  | a :: r, [], _ => rfl
  | a :: r, b :: s, h => by
    rw [listEq, listEq_len (fun e => h (by simp [e])), Bool.and_false]
theorem listEq_step {α : Type} {f : α → α → Bool} {l m : List α} {k : Nat} (h1 : k < l.length) (h2 : k < m.length) : listEq f (l.drop k) (m.drop k) = (f l[k] m[k] && listEq f (l.drop (k + 1)) (m.drop (k + 1))) := by
  rw [List.drop_eq_getElem_cons h1, List.drop_eq_getElem_cons h2, listEq]
theorem listEq_end {α : Type} {f : α → α → Bool} {l m : List α} {k : Nat} (h1 : l.length ≤ k) (h2 : m.length ≤ k) : listEq f (l.drop k) (m.drop k) = true := by
  rw [List.drop_eq_nil_of_le h1, List.drop_eq_nil_of_le h2, listEq]
def stepEq (a b : StepD) : Bool := a.kind == b.kind && a.parent == b.parent && a.name.toList == b.name.toList && a.arg == b.arg && listEq nodeEq a.cond b.cond && listEq nodeEq a.expr b.expr
end St
end Go.Proofs.Ytpninlangjfcfaa
