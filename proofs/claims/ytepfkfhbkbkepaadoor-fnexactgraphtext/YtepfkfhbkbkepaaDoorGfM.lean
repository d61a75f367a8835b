/- Graphs, plainly: what is wrong with one. -/
import Derived.Test.YtepfkfhbkbkepaaDoorGnA
import Derived.Test.YtepfkfhbkbkepaaDoorFlA
import Derived.Test.YtepfkfhbkbkepaaDoorTrM
namespace Go.Proofs.YtepfkfhbkbkepaaDoor
set_option linter.unusedVariables false
namespace Gr
open Ex (inR)
open Nd (NodeD)
open Gn (GNodeD)
open Fl (FlowD)
open Tr (nf)
structure GraphD where
  nodes : List GNodeD
  flows : List FlowD
def NJ (l : List GNodeD) (i : Nat) : GNodeD := l[i]?.getD ⟨0, 0, ByteArray.empty, 0, []⟩
def FJ (l : List FlowD) (i : Nat) : FlowD := l[i]?.getD ⟨0, 0, []⟩
theorem NJ_eq {l : List GNodeD} {i : Nat} (h : i < l.length) : NJ l i = l[i] := by unfold NJ; rw [List.getElem?_eq_getElem h, Option.getD_some]
theorem FJ_eq {l : List FlowD} {i : Nat} (h : i < l.length) : FJ l i = l[i] := by unfold FJ; rw [List.getElem?_eq_getElem h, Option.getD_some]
def firstC (f : Nat → Int) : Nat → Int
  | 0 => 0
  | n + 1 => if firstC f n ≠ 0 then firstC f n else f n
theorem first_next {f : Nat → Int} {i : Nat} (h : firstC f i = 0) (hb : f i = 0) : firstC f (i + 1) = 0 := by
  rw [firstC, if_neg (by simp [h]), hb]
theorem first_keep {f : Nat → Int} : ∀ {n m : Nat}, m ≤ n → firstC f m ≠ 0 → firstC f n = firstC f m
  | 0, m, h, hm => by obtain rfl : m = 0 := by omega
                      rfl
  | n + 1, m, h, hm => by
    by_cases e : m = n + 1
    · subst e; rfl
    · have := first_keep (n := n) (by omega) hm
      rw [firstC, if_pos (by rw [this]; exact hm), this]
theorem first_bad {f : Nat → Int} {n i : Nat} (hi : i < n) (h : firstC f i = 0) (hb : f i ≠ 0) : firstC f n = f i := by
  have e : firstC f (i + 1) = f i := by rw [firstC, if_neg (by simp [h])]
  rw [first_keep hi (by rw [e]; exact hb), e]
def argK (k : Int) : Bool := inR k 4 6 || (k == 11)
def endK (k : Int) : Bool := (k == 1) || (k == 2)
/-- Has a node nothing that its kind has not? -/
def bare (n : GNodeD) : Bool := ((n.kind == 3) || n.name.toList.isEmpty) && (argK n.kind || (n.arg == 0)) && ((n.kind == 6) || ((n.expr.length : Int) == 0)) && (!endK n.kind || (n.step == 0))
def nodeC (n : GNodeD) : Int := if inR n.kind 1 13 = false ∨ bare n = false then 1 else if inR n.step 0 23 = false ∨ inR n.arg 0 99 = false then 3 else if (16 : Int) < n.expr.length then 2 else if n.kind = 3 then nf n.name.data.toList else 0
def flowC (g : GraphD) (i : Nat) : Int := if inR (FJ g.flows i).src 0 ((g.nodes.length : Int) - 1) = false ∨ inR (FJ g.flows i).dst 0 ((g.nodes.length : Int) - 1) = false then 3 else if (16 : Int) < (FJ g.flows i).cond.length then 2 else if 0 < i ∧ (FJ g.flows i).src < (FJ g.flows (i - 1)).src then 1 else 0
def gFault (g : GraphD) : Int := if g.nodes.length < 2 ∨ 60 < g.nodes.length ∨ 80 < g.flows.length then 2 else if firstC (fun i => nodeC (NJ g.nodes i)) g.nodes.length ≠ 0 then firstC (fun i => nodeC (NJ g.nodes i)) g.nodes.length else firstC (flowC g) g.flows.length
theorem g_many {g : GraphD} (h : g.nodes.length < 2 ∨ 60 < g.nodes.length ∨ 80 < g.flows.length) : gFault g = 2 := by unfold gFault; rw [if_pos h]
theorem g_node {g : GraphD} (h : ¬ (g.nodes.length < 2 ∨ 60 < g.nodes.length ∨ 80 < g.flows.length)) {i : Nat} (hi : i < g.nodes.length) (h0 : firstC (fun i => nodeC (NJ g.nodes i)) i = 0) (hb : nodeC (NJ g.nodes i) ≠ 0) : gFault g = nodeC (NJ g.nodes i) := by
  have e := first_bad (f := fun i => nodeC (NJ g.nodes i)) hi h0 hb
  unfold gFault; rw [if_neg h, if_pos (by rw [e]; exact hb), e]
theorem g_flow {g : GraphD} (h : ¬ (g.nodes.length < 2 ∨ 60 < g.nodes.length ∨ 80 < g.flows.length)) (h1 : firstC (fun i => nodeC (NJ g.nodes i)) g.nodes.length = 0) {i : Nat} (hi : i < g.flows.length) (h0 : firstC (flowC g) i = 0) (hb : flowC g i ≠ 0) : gFault g = flowC g i := by
  unfold gFault; rw [if_neg h, if_neg (by simp [h1]), first_bad hi h0 hb]
theorem g_ok {g : GraphD} (h : ¬ (g.nodes.length < 2 ∨ 60 < g.nodes.length ∨ 80 < g.flows.length)) (h1 : firstC (fun i => nodeC (NJ g.nodes i)) g.nodes.length = 0) (h2 : firstC (flowC g) g.flows.length = 0) : gFault g = 0 := by
  unfold gFault; rw [if_neg h, if_neg (by simp [h1]), h2]
theorem g_fine {g : GraphD} (h : gFault g = 0) : ¬ (g.nodes.length < 2 ∨ 60 < g.nodes.length ∨ 80 < g.flows.length) := by
  intro h2; rw [g_many h2] at h; omega
theorem n_form {n : GNodeD} (h : inR n.kind 1 13 = false ∨ bare n = false) : nodeC n = 1 := by unfold nodeC; rw [if_pos h]
theorem n_range {n : GNodeD} (h1 : inR n.kind 1 13 = true) (h2 : bare n = true) (h : inR n.step 0 23 = false ∨ inR n.arg 0 99 = false) : nodeC n = 3 := by unfold nodeC; rw [if_neg (by simp [h1, h2]), if_pos h]
theorem n_many {n : GNodeD} (h1 : inR n.kind 1 13 = true) (h2 : bare n = true) (h3 : inR n.step 0 23 = true) (h4 : inR n.arg 0 99 = true) (h : (16 : Int) < n.expr.length) : nodeC n = 2 := by unfold nodeC; rw [if_neg (by simp [h1, h2]), if_neg (by simp [h3, h4]), if_pos h]
theorem n_name {n : GNodeD} (h1 : inR n.kind 1 13 = true) (h2 : bare n = true) (h3 : inR n.step 0 23 = true) (h4 : inR n.arg 0 99 = true) (h5 : ¬ (16 : Int) < n.expr.length) (h : n.kind = 3) : nodeC n = nf n.name.data.toList := by unfold nodeC; rw [if_neg (by simp [h1, h2]), if_neg (by simp [h3, h4]), if_neg h5, if_pos h]
theorem n_ok {n : GNodeD} (h1 : inR n.kind 1 13 = true) (h2 : bare n = true) (h3 : inR n.step 0 23 = true) (h4 : inR n.arg 0 99 = true) (h5 : ¬ (16 : Int) < n.expr.length) (h : ¬ n.kind = 3) : nodeC n = 0 := by unfold nodeC; rw [if_neg (by simp [h1, h2]), if_neg (by simp [h3, h4]), if_neg h5, if_neg h]
theorem f_range {g : GraphD} {i : Nat} (h : inR (FJ g.flows i).src 0 ((g.nodes.length : Int) - 1) = false ∨ inR (FJ g.flows i).dst 0 ((g.nodes.length : Int) - 1) = false) : flowC g i = 3 := by unfold flowC; rw [if_pos h]
theorem f_many {g : GraphD} {i : Nat} (h1 : inR (FJ g.flows i).src 0 ((g.nodes.length : Int) - 1) = true) (h2 : inR (FJ g.flows i).dst 0 ((g.nodes.length : Int) - 1) = true) (h : (16 : Int) < (FJ g.flows i).cond.length) : flowC g i = 2 := by unfold flowC; rw [if_neg (by simp [h1, h2]), if_pos h]
theorem f_form {g : GraphD} {i : Nat} (h1 : inR (FJ g.flows i).src 0 ((g.nodes.length : Int) - 1) = true) (h2 : inR (FJ g.flows i).dst 0 ((g.nodes.length : Int) - 1) = true) (h3 : ¬ (16 : Int) < (FJ g.flows i).cond.length) (h : 0 < i ∧ (FJ g.flows i).src < (FJ g.flows (i - 1)).src) : flowC g i = 1 := by unfold flowC; rw [if_neg (by simp [h1, h2]), if_neg h3, if_pos h]
theorem f_ok {g : GraphD} {i : Nat} (h1 : inR (FJ g.flows i).src 0 ((g.nodes.length : Int) - 1) = true) (h2 : inR (FJ g.flows i).dst 0 ((g.nodes.length : Int) - 1) = true) (h3 : ¬ (16 : Int) < (FJ g.flows i).cond.length) (h : ¬ (0 < i ∧ (FJ g.flows i).src < (FJ g.flows (i - 1)).src)) : flowC g i = 0 := by unfold flowC; rw [if_neg (by simp [h1, h2]), if_neg h3, if_neg h]
end Gr
end Go.Proofs.YtepfkfhbkbkepaaDoor
