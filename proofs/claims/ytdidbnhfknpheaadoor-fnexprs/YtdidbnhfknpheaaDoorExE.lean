/- The specification's TypeOf. -/
import Derived.Test.YtdidbnhfknpheaaDoorExD
namespace Go.Proofs.YtdidbnhfknpheaaDoor
open Go.RowKit
set_option linter.unusedVariables false
namespace Ex
open Nd (NodeD)
def tyOf (k : Int) : Int := if 7 ≤ k then 2 else 1
def wantOf (k : Int) : Int := if k = 9 ∨ k = 10 then 2 else 1
def ty (ns : List NodeD) (j : Nat) : Int := tyOf (NJ ns j).kind
def badAt (ns : List NodeD) (i : Nat) : Bool := (decide (2 < (NJ ns i).kind) && (ty ns (NJ ns i).left.toNat != wantOf (NJ ns i).kind)) || (two (NJ ns i).kind && (ty ns (NJ ns i).right.toNat != wantOf (NJ ns i).kind))
def tOk (ns : List NodeD) : Bool := (List.range ns.length).all (fun j => !badAt ns j)
def typeCode (ns : List NodeD) : Int := if eFault ns ≠ 0 then eFault ns else if tOk ns = true then 0 else 7
def typeVal (ns : List NodeD) : Int := if typeCode ns = 0 then ty ns (ns.length - 1) else 0
theorem tOk_bad {ns : List NodeD} {i : Nat} (hi : i < ns.length) (h : badAt ns i = true) : tOk ns = false := by
  unfold tOk
  rw [List.all_eq_false]
  exact ⟨i, by simpa using hi, by simp [h]⟩
theorem tOk_all {ns : List NodeD} (h : ∀ j, j < ns.length → badAt ns j = false) : tOk ns = true := by
  unfold tOk
  rw [List.all_eq_true]
  intro j hj
  rw [h j (by simpa using hj)]
  rfl
theorem ty_fault {ns : List NodeD} (h : eFault ns ≠ 0) : typeCode ns = eFault ns ∧ typeVal ns = 0 := by
  have e : typeCode ns = eFault ns := by unfold typeCode; rw [if_pos h]
  exact ⟨e, by unfold typeVal; rw [if_neg (by rw [e]; exact h)]⟩
theorem ty_bad {ns : List NodeD} (h : eFault ns = 0) (h2 : tOk ns = false) : typeCode ns = 7 ∧ typeVal ns = 0 := by
  have e : typeCode ns = 7 := by unfold typeCode; rw [if_neg (by simp [h]), if_neg (by simp [h2])]
  exact ⟨e, by unfold typeVal; rw [if_neg (by rw [e]; decide)]⟩
theorem ty_ok {ns : List NodeD} (h : eFault ns = 0) (h2 : tOk ns = true) : typeCode ns = 0 ∧ typeVal ns = ty ns (ns.length - 1) := by
  have e : typeCode ns = 0 := by unfold typeCode; rw [if_neg (by simp [h]), if_pos h2]
  exact ⟨e, by unfold typeVal; rw [if_pos e]⟩
theorem of_e {ns : List NodeD} (h : eFault ns = 0) : 0 < ns.length ∧ ns.length ≤ 16 ∧ ∀ k, k < ns.length → nCode (NJ ns k) k = 0 := by
  by_cases z : ns.length < 1 ∨ 16 < ns.length
  · rw [e_many z] at h; omega
  · refine ⟨by omega, by omega, ?_⟩
    unfold eFault at h
    rw [if_neg z] at h
    by_cases h2 : eCodeTo ns ns.length ≠ 0
    · rw [if_pos h2] at h; exact absurd h h2
    · exact code_all (by simpa using h2)
/-- The types of the first nodes, as they lie in memory. -/
def tyVals (ns : List NodeD) (i : Nat) : List Value := (List.range i).map fun j => .int .i64 (ty ns j)
theorem tyVals_len (ns : List NodeD) (i : Nat) : (tyVals ns i).length = i := by simp [tyVals]
theorem tyVals_succ (ns : List NodeD) (i : Nat) : tyVals ns (i + 1) = tyVals ns i ++ [.int .i64 (ty ns i)] := by simp [tyVals, List.range_succ]
theorem ty_cell {w : World} {base g cap i j : Nat} {e : TypeId} {ns : List NodeD} (h : w.ownsRow base e 1 (.slice (some ⟨g, 0, none⟩) i cap) i (tyVals ns i)) (hj : j < i) : w.cell? ⟨g, j, none⟩ = some (.int .i64 (ty ns j)) := by
  have h1 := owns_cell h hj (by rw [tyVals_len]; exact hj)
  simpa [tyVals] using h1
theorem owns_some {w : World} {base n cap : Nat} {e : TypeId} {a : Option Addr} {xs : List Value} (h : w.ownsRow base e 1 (.slice a n cap) n xs) (hn : 0 < n) : ∃ g, a = some ⟨g, 0, none⟩ ∧ g < w.heap.size := by
  obtain ⟨_, ⟨e1, e2⟩ | ⟨g', cap', cur, e1, _, hg, _⟩⟩ := h
  · omega
  · cases e1; exact ⟨g', rfl, (Array.getElem?_eq_some_iff.1 hg).1⟩
theorem cell_one (w : World) (b : Nat) (hb : b = w.heap.size) (x : Value) (t : TypeId) : ∀ j u, [x][j]? = some u → (w.alloc (.cells #[x] t)).cell? ((⟨b, 0, none⟩ : Addr).add j) = some u := by
  subst hb
  exact cell_one_new w x t
end Ex
end Go.Proofs.YtdidbnhfknpheaaDoor
