/- Laid together: GoC, GoE. -/
import Derived.Test.YtfgckeoigkoflaaGreatDoorJGraphOf12
import Derived.Test.YtfgckeoigkoflaaGreatDoorJGraphOf28
/- One more flow, in its place: plain facts; a graph under way behind it. -/
namespace Go.Proofs.YtfgckeoigkoflaaGreatDoor
open Go.RowKit
set_option linter.unusedVariables false
namespace Gr
open Ex (hid nvals nval nvals_len nvals_get at_of_owns owns_keep)
open Nd (NodeD)
open Gn (GNodeD)
open Fl (FlowD)
open Nst (own flat)
open Rc
/-- How many flows ahead are from nodes up to that one. -/
def pref (src : Int) : List FlowD → Nat
  | [] => 0
  | f :: r => if f.src ≤ src then pref src r + 1 else 0
theorem pref_le (s : Int) : ∀ fl : List FlowD, pref s fl ≤ fl.length
  | [] => Nat.le_refl _
  | f :: r => by
    have := pref_le s r
    unfold pref
    split
    · simp; omega
    · simp
theorem pref_at (s : Int) : ∀ {fl : List FlowD} {n : Nat}, n ≤ fl.length → (∀ i, i < n → (FJ fl i).src ≤ s) → (n < fl.length → ¬ (FJ fl n).src ≤ s) → pref s fl = n
  | [], n, h, _, _ => by simp at h; simp [pref, h]
  | f :: r, 0, _, _, h3 => by
    have := h3 (by simp)
    unfold pref
    rw [if_neg (by simpa [FJ] using this)]
  | f :: r, n + 1, h, h2, h3 => by
    have h0 := h2 0 (by omega)
    have e : ∀ i, FJ (f :: r) (i + 1) = FJ r i := fun i => by simp [FJ]
    unfold pref
    rw [if_pos (by simpa [FJ] using h0), pref_at s (fl := r) (n := n) (by simpa using h) (fun i hi => by rw [← e]; exact h2 (i + 1) (by omega)) (fun hn => by rw [← e]; exact h3 (by simpa using hn))]
def linkL (fl : List FlowD) (x : FlowD) : List FlowD := fl.take (pref x.src fl) ++ [x] ++ fl.drop (pref x.src fl)
theorem ins_len {fl : List FlowD} {x : FlowD} {k : Nat} (hk : k ≤ fl.length) : (fl.take k ++ [x] ++ fl.drop k).length = fl.length + 1 := by simp; omega
theorem ins_J {fl : List FlowD} {x : FlowD} {k : Nat} (hk : k ≤ fl.length) (j : Nat) : FJ (fl.take k ++ [x] ++ fl.drop k) j = if j < k then FJ fl j else if j = k then x else FJ fl (j - 1) := by
  unfold FJ
  by_cases h1 : j < k
  · rw [if_pos h1, List.getElem?_append_left (by simp; omega), List.getElem?_append_left (by simp; omega), List.getElem?_take, if_pos h1]
  · rw [if_neg h1]
    by_cases h2 : j = k
    · rw [if_pos h2, List.getElem?_append_left (by simp; omega), List.getElem?_append_right (by simp; omega)]
      have : j - (fl.take k).length = 0 := by simp; omega
      rw [this]; rfl
    · rw [if_neg h2, List.getElem?_append_right (by simp; omega), List.getElem?_drop]
      have : k + (j - (fl.take k ++ [x]).length) = j - 1 := by simp; omega
      rw [this]
theorem flat_add (c : Nat → List Value) (k : Nat) : ∀ m, flat c (k + m) = flat c k ++ flat (fun j => c (k + j)) m
  | 0 => by simp [flat]
  | m + 1 => by rw [← Nat.add_assoc, Nst.flat_succ, flat_add c k m, Nst.flat_succ, List.append_assoc]
theorem flat_ins {c : Nat → List Value} {y : List Value} {z n k : Nat} (hc : ∀ j, (c j).length = z) (hk : k ≤ n) :
    flat (fun j => if j < k then c j else if j = k then y else c (j - 1)) (n + 1) = (flat c n).take (k * z) ++ y ++ (flat c n).drop (k * z) := by
  obtain ⟨m, rfl⟩ : ∃ m, n = k + m := ⟨n - k, by omega⟩
  have hl : (flat c k).length = k * z := Nst.flat_len k (fun j _ => hc j)
  rw [flat_add c k m, List.take_left' hl, List.drop_left' hl]
  have e1 : flat (fun j => if j < k then c j else if j = k then y else c (j - 1)) k = flat c k := Nst.flat_congr (fun j hj => by rw [if_pos hj])
  have e2 : flat (fun j => if k + j < k then c (k + j) else if k + j = k then y else c (k + j - 1)) 1 = y := by simp [flat]
  have e3 : flat (fun j => if k + (1 + j) < k then c (k + (1 + j)) else if k + (1 + j) = k then y else c (k + (1 + j) - 1)) m = flat (fun j => c (k + j)) m := Nst.flat_congr (fun j hj => by
    rw [if_neg (by omega), if_neg (by omega)]
    congr 1
    omega)
  rw [show k + m + 1 = k + (1 + m) by omega, flat_add _ k (1 + m), flat_add _ 1 m, e1, e2, e3, List.append_assoc]
theorem add_none (g o j : Nat) : (⟨g, o, none⟩ : Addr).add j = ⟨g, o + j, none⟩ := by
  unfold Addr.add
  split
  · rename_i h; subst h; rfl
  · rfl
theorem row_of_at {w : World} {B : Nat} {v : Value} {ns : List NodeD} (h : Nd.At w B v ns) : Ap.Row w 4 v ns.length (nvals ns) := by
  obtain ⟨a, cap, rfl⟩ := h.slice
  refine ⟨a, cap, rfl, nvals_len ns, fun u hu => ?_, ?_⟩
  · obtain ⟨n, _, hn⟩ := List.mem_flatMap.1 hu
    simp [nval] at hn
    rcases hn with rfl | rfl | rfl | rfl <;> rfl
  · by_cases h0 : ns.length = 0
    · exact .inl h0
    · obtain ⟨g, o, rfl, hg, _⟩ := h.at (i := 0) (by omega)
      refine .inr ⟨⟨g, o, none⟩, rfl, fun j u hu => ?_⟩
      have hj : j < ns.length * 4 := by
        rw [← nvals_len]
        exact (List.getElem?_eq_some_iff.1 hu).1
      obtain ⟨g', o', e, _, p0, p1, p2, p3⟩ := h.at (i := j / 4) (by omega)
      cases e
      obtain ⟨q0, q1, q2, q3⟩ := nvals_get ns (j / 4) (by omega)
      have hm : j % 4 = 0 ∨ j % 4 = 1 ∨ j % 4 = 2 ∨ j % 4 = 3 := by omega
      rw [add_none]
      rcases hm with hm | hm | hm | hm
      · have e : j = j / 4 * 4 := by omega
        rw [e, q0] at hu; rw [e, ← hu]; exact p0
      · have e : j = j / 4 * 4 + 1 := by omega
        rw [e, q1] at hu; rw [e, ← hu, ← Nat.add_assoc]; exact p1
      · have e : j = j / 4 * 4 + 2 := by omega
        rw [e, q2] at hu; rw [e, ← hu, ← Nat.add_assoc]; exact p2
      · have e : j = j / 4 * 4 + 3 := by omega
        rw [e, q3] at hu; rw [e, ← hu, ← Nat.add_assoc]; exact p3
theorem fl_one {w : World} {B : Nat} {v : Value} {fl : List FlowD} {F : Nat → Value} (h : FlOAt w B v fl F) : ∀ u ∈ flat (fun j => flcell (FJ fl j) (F j)) fl.length, u.oneCell' = true := fun u hu => by
  obtain ⟨j, hj, hu⟩ := List.mem_flatMap.1 hu
  obtain ⟨a, c, e⟩ := Nst.own_slice (h.sub j (List.mem_range.1 hj))
  have e2 : F j = .slice a (FJ fl j).cond.length c := e
  simp [flcell, e2] at hu
  rcases hu with rfl | rfl | rfl <;> rfl
theorem fl_len (fl : List FlowD) (F : Nat → Value) : (flat (fun j => flcell (FJ fl j) (F j)) fl.length).length = fl.length * 3 := Nst.flat_len _ (fun _ _ => rfl)
/-- The beginning of a row of flows, and the rest, as rows that are appended. -/
theorem fl_head {w : World} {B g cap k : Nat} {fl : List FlowD} {F : Nat → Value} (h : FlOAt w B (.slice (some ⟨g, 0, none⟩) fl.length cap) fl F) (hk : k ≤ fl.length) (c : Nat) : Ap.Row w 3 (.slice (some ⟨g, 0, none⟩) k c) k ((flat (fun j => flcell (FJ fl j) (F j)) fl.length).take (k * 3)) := by
  have hl := fl_len fl F
  refine ⟨_, _, rfl, by rw [List.length_take]; omega, fun u hu => fl_one h u (List.mem_of_mem_take hu), .inr ⟨_, rfl, fun j u hu => ?_⟩⟩
  rw [List.getElem?_take] at hu
  split at hu
  · rw [add_none, Nat.zero_add, h.row.cellAt j (by omega)]; exact hu
  · cases hu
theorem fl_tail {w : World} {B g cap k : Nat} {fl : List FlowD} {F : Nat → Value} (h : FlOAt w B (.slice (some ⟨g, 0, none⟩) fl.length cap) fl F) (hk : k ≤ fl.length) (c : Nat) : Ap.Row w 3 (.slice (some ⟨g, k * 3, none⟩) (fl.length - k) c) (fl.length - k) ((flat (fun j => flcell (FJ fl j) (F j)) fl.length).drop (k * 3)) := by
  have hl := fl_len fl F
  refine ⟨_, _, rfl, by rw [List.length_drop]; omega, fun u hu => fl_one h u (List.mem_of_mem_drop hu), .inr ⟨_, rfl, fun j u hu => ?_⟩⟩
  rw [List.getElem?_drop] at hu
  have hj : k * 3 + j < fl.length * 3 := by rw [← hl]; exact (List.getElem?_eq_some_iff.1 hu).1
  rw [add_none, h.row.cellAt (k * 3 + j) hj]; exact hu
theorem fl_none {w : World} {B cap : Nat} {fl : List FlowD} {F : Nat → Value} (h : FlOAt w B (.slice none fl.length cap) fl F) : fl = [] ∧ cap = 0 := by
  rcases h.row.2 with ⟨e, h0⟩ | ⟨g, c, cur, e, _⟩
  · exact ⟨List.length_eq_zero_iff.1 h0, by simp at e; exact e.2⟩
  · cases e
theorem link_end {w0 w3 : World} {P k : Nat} {S : Nat → Prop} {g : GraphD} {vn vf vc v' : Value} {E F : Nat → Value} {x : FlowD} (hb : Below w0.heap.size w0 w3) (hlt : P < w0.heap.size) (hP : w0.heap[P]? = some (.cells #[vn, vf] 27 (0, 0)))
    (hS : ∀ b, Blk vn vf g.nodes.length g.flows.length E F b → S b) (hSl : ∀ b, S b → P < b ∧ b < w0.heap.size) (hA : GnOAt w0 (P + 1) vn g.nodes E) (hF : FlOAt w0 (P + 1) vf g.flows F) (hX : ∀ b, own vn b → ¬ own vf b ∧ ∀ j, j < g.flows.length → ¬ own (F j) b) (hk : k ≤ g.flows.length)
    (hc : w3.ownsRow w0.heap.size 115 4 vc x.cond.length (nvals x.cond))
    (hown : w3.ownsRow w0.heap.size 101 3 v' (g.flows.length + 1) ((flat (fun j => flcell (FJ g.flows j) (F j)) g.flows.length).take (k * 3) ++ flcell x vc ++ (flat (fun j => flcell (FJ g.flows j) (F j)) g.flows.length).drop (k * 3)))
    (hne : ∀ b, own vc b → ¬ own v' b) :
    ∃ S', GB (w3.setCell ⟨P, 1, none⟩ v') P S' ⟨g.nodes, g.flows.take k ++ [x] ++ g.flows.drop k⟩ ∧ Fr w0 (w3.setCell ⟨P, 1, none⟩ v') P S S' := by
  have hz := hb.size
  have hset : ∀ b, b ≠ P → (w3.setCell ⟨P, 1, none⟩ v').heap[b]? = w3.heap[b]? := fun b hb => Below.heap_setCell _ _ _ _ (by dsimp only; omega)
  have hold : ∀ b, b < w0.heap.size → b ≠ P → (w3.setCell ⟨P, 1, none⟩ v').heap[b]? = w0.heap[b]? := fun b h1 h2 => (hset b h2).trans (hb.block b h1)
  have hNlt : ∀ b, own vn b → P < b ∧ b < w0.heap.size := fun b e => by
    have := Nst.own_lt hA.row e
    omega
  have hvc : ∀ b, own vc b → w0.heap.size ≤ b := fun b e => (Nst.own_lt hc e).1
  have hv' : ∀ b, own v' b → w0.heap.size ≤ b := fun b e => (Nst.own_lt hown e).1
  have hFl : ∀ j, j < g.flows.length → ∀ b, own (F j) b → P < b ∧ b < w0.heap.size := fun j hj b e => by
    have := Nst.own_lt (hF.sub j hj) e
    omega
  have hsub : ∀ j, j < g.flows.length → (nsub (F j) (FJ g.flows j).cond).At (w3.setCell ⟨P, 1, none⟩ v') (P + 1) := fun j hj => Nst.own_kept (hF.sub j hj) (fun b e => hold b (hFl j hj b e).2 (by have := (hFl j hj b e).1; omega))
  have hl := ins_len (x := x) hk
  have hnod : GnOAt (w3.setCell ⟨P, 1, none⟩ v') (P + 1) vn g.nodes E := hA.keep (fun b h1 h2 => hold b h2 (by omega))
  have hflo : FlOAt (w3.setCell ⟨P, 1, none⟩ v') (P + 1) v' (g.flows.take k ++ [x] ++ g.flows.drop k) (fun j => if j < k then F j else if j = k then vc else F (j - 1)) := by
    refine ⟨?_, fun i hi => ?_, fun i j hi hj hij b => ?_, fun i hi b => ?_⟩
    · show (w3.setCell ⟨P, 1, none⟩ v').ownsRow (P + 1) _ 3 v' (g.flows.take k ++ [x] ++ g.flows.drop k).length _
      rw [hl]
      have e : flat (fun j => flcell (FJ (g.flows.take k ++ [x] ++ g.flows.drop k) j) (if j < k then F j else if j = k then vc else F (j - 1))) (g.flows.length + 1) = (flat (fun j => flcell (FJ g.flows j) (F j)) g.flows.length).take (k * 3) ++ flcell x vc ++ (flat (fun j => flcell (FJ g.flows j) (F j)) g.flows.length).drop (k * 3) := by
        rw [← flat_ins (c := fun j => flcell (FJ g.flows j) (F j)) (z := 3) (fun _ => rfl) hk]
        refine Nst.flat_congr (fun j hj => ?_)
        rw [ins_J hk]
        by_cases h1 : j < k
        · simp only [h1, if_true]
        · by_cases h2 : j = k
          · subst h2; simp
          · simp only [h1, h2, if_false]
      rw [e]
      refine Nst.own_kept (Nst.own_mono hown (by omega)) (fun b hb => hset b (by have := hv' b hb; omega))
    · show (nsub _ _).At _ _
      rw [ins_J hk]
      have hi' : i < g.flows.length + 1 := by rw [← hl]; exact hi
      by_cases h1 : i < k
      · simp only [h1, if_true]; exact hsub i (by omega)
      · by_cases h2 : i = k
        · subst h2
          simp only [Nat.lt_irrefl, if_false, if_true]
          exact Nst.own_kept (Nst.own_mono hc (by omega)) (fun b hb => hset b (by have := hvc b hb; omega))
        · simp only [h1, h2, if_false]; exact hsub (i - 1) (by omega)
    · have hi' : i < g.flows.length + 1 := by rw [← hl]; exact hi
      have hj' : j < g.flows.length + 1 := by rw [← hl]; exact hj
      show own (if i < k then F i else if i = k then vc else F (i - 1)) b → ¬ own (if j < k then F j else if j = k then vc else F (j - 1)) b
      intro e1 e2
      by_cases i1 : i < k
      · rw [if_pos i1] at e1
        by_cases j1 : j < k
        · rw [if_pos j1] at e2; exact hF.sep i j (by omega) (by omega) hij b e1 e2
        · rw [if_neg j1] at e2
          by_cases j2 : j = k
          · rw [if_pos j2] at e2; have := (hFl i (by omega) b e1).2; have := hvc b e2; omega
          · rw [if_neg j2] at e2; exact hF.sep i (j - 1) (by omega) (by omega) (by omega) b e1 e2
      · rw [if_neg i1] at e1
        by_cases i2 : i = k
        · rw [if_pos i2] at e1
          by_cases j1 : j < k
          · rw [if_pos j1] at e2; have := (hFl j (by omega) b e2).2; have := hvc b e1; omega
          · rw [if_neg j1, if_neg (by omega)] at e2; have := (hFl (j - 1) (by omega) b e2).2; have := hvc b e1; omega
        · rw [if_neg i2] at e1
          by_cases j1 : j < k
          · rw [if_pos j1] at e2; exact hF.sep (i - 1) j (by omega) (by omega) (by omega) b e1 e2
          · rw [if_neg j1] at e2
            by_cases j2 : j = k
            · rw [if_pos j2] at e2; have := (hFl (i - 1) (by omega) b e1).2; have := hvc b e2; omega
            · rw [if_neg j2] at e2; exact hF.sep (i - 1) (j - 1) (by omega) (by omega) (by omega) b e1 e2
    · have hi' : i < g.flows.length + 1 := by rw [← hl]; exact hi
      show own (if i < k then F i else if i = k then vc else F (i - 1)) b → ¬ own v' b
      intro e1 e2
      have h2 := hv' b e2
      by_cases i1 : i < k
      · rw [if_pos i1] at e1; have := (hFl i (by omega) b e1).2; omega
      · rw [if_neg i1] at e1
        by_cases i2 : i = k
        · rw [if_pos i2] at e1; exact hne b e1 e2
        · rw [if_neg i2] at e1; have := (hFl (i - 1) (by omega) b e1).2; omega
  have hF' : ∀ j b, j < g.flows.length + 1 → own (if j < k then F j else if j = k then vc else F (j - 1)) b → (∃ i, i < g.flows.length ∧ own (F i) b) ∨ own vc b := fun j b hj e => by
    by_cases j1 : j < k
    · rw [if_pos j1] at e; exact .inl ⟨j, by omega, e⟩
    · rw [if_neg j1] at e
      by_cases j2 : j = k
      · rw [if_pos j2] at e; exact .inr e
      · rw [if_neg j2] at e; exact .inl ⟨j - 1, by omega, e⟩
  refine ⟨Blk vn v' g.nodes.length (g.flows.take k ++ [x] ++ g.flows.drop k).length E (fun j => if j < k then F j else if j = k then vc else F (j - 1)), ⟨vn, v', E, fun j => if j < k then F j else if j = k then vc else F (j - 1), ?_, fun _ h => h, hnod, hflo, ?_, ?_⟩, ?_⟩
  · have := (hb.block P hlt).trans hP
    simp [World.setCell, Array.getElem?_modify, this]
  · intro b hbN
    have h1 := (hNlt b hbN).2
    refine ⟨fun e => by have := hv' b e; omega, fun j hj e => ?_⟩
    rcases hF' j b (by rw [← hl]; exact hj) e with ⟨i, hi, e2⟩ | e2
    · exact (hX b hbN).2 i hi e2
    · have := hvc b e2; omega
  · intro b hb
    rcases hb with e | ⟨j, hj, e⟩ | e | ⟨j, hj, e⟩
    · have := Nst.own_lt hnod.row e; omega
    · have := Nst.own_lt (hnod.sub j hj) e; omega
    · have := Nst.own_lt hflo.row e; omega
    · have := Nst.own_lt (hflo.sub j hj) e; omega
  · refine ⟨hb.os, hb.tape, hb.output, by simp [World.setCell]; exact hz, fun b h1 h2 _ => hold b h1 h2, fun b hb => ?_⟩
    rcases hb with e | ⟨j, hj, e⟩ | e | ⟨j, hj, e⟩
    · exact .inl (hS b (.inl e))
    · exact .inl (hS b (.inr (.inl ⟨j, hj, e⟩)))
    · exact .inr (hv' b e)
    · rcases hF' j b (by rw [← hl]; exact hj) e with ⟨i, hi, e2⟩ | e2
      · exact .inl (hS b (.inr (.inr (.inr ⟨i, hi, e2⟩))))
      · exact .inr (hvc b e2)
end Gr
end Go.Proofs.YtfgckeoigkoflaaGreatDoor
/- The graph of a process, as a plain function, in the order in which it is drawn; how much of it there can be. -/
namespace Go.Proofs.YtfgckeoigkoflaaGreatDoor
set_option linter.unusedVariables false
namespace Gr
open Ex (inR)
open Nd (NodeD)
open Gn (GNodeD)
open Fl (FlowD)
open St (StepD)
open Pf (PJ kidsL)
def addN (g : GraphD) (x : GNodeD) : GraphD := ⟨g.nodes ++ [x], g.flows⟩
def addF (g : GraphD) (x : FlowD) : GraphD := ⟨g.nodes, linkL g.flows x⟩
theorem addN_n (g : GraphD) (x : GNodeD) : (addN g x).nodes.length = g.nodes.length + 1 := by simp [addN]
theorem addN_f (g : GraphD) (x : GNodeD) : (addN g x).flows = g.flows := rfl
theorem addF_n (g : GraphD) (x : FlowD) : (addF g x).nodes = g.nodes := rfl
theorem addF_f (g : GraphD) (x : FlowD) : (addF g x).flows.length = g.flows.length + 1 := ins_len (pref_le _ _)
/-- A node that has its kind and its step alone. -/
def bareN (kind : Int) (k : Nat) : GNodeD := ⟨kind, k, ⟨#[]⟩, 0, []⟩
abbrev Drawn := GraphD × Nat × Nat
/-- The first m kids, from a parting node a on: the graph, and what leaves each. -/
def manyN (dr : GraphD → Nat → Drawn) (ss : List StepD) (a : Nat) (ks : List Nat) (g : GraphD) : Nat → GraphD × List Nat
  | 0 => (g, [])
  | m + 1 => (addF (dr (manyN dr ss a ks g m).1 (ks.getD m 0)).1 ⟨(a : Int), ((dr (manyN dr ss a ks g m).1 (ks.getD m 0)).2.1 : Int), (PJ ss (ks.getD m 0)).cond⟩, (manyN dr ss a ks g m).2 ++ [(dr (manyN dr ss a ks g m).1 (ks.getD m 0)).2.2])
/-- Flows from the first m of some nodes to one. -/
def joinN (outs : List Nat) (b : Nat) (g : GraphD) : Nat → GraphD
  | 0 => g
  | m + 1 => addF (joinN outs b g m) ⟨((outs.getD m 0 : Nat) : Int), (b : Int), []⟩
/-- The first m + 1 kids, one behind the other: the graph, and what leaves the last. -/
def seqN (dr : GraphD → Nat → Drawn) (ks : List Nat) (g : GraphD) (o : Nat) : Nat → GraphD × Nat
  | 0 => (g, o)
  | m + 1 => (addF (dr (seqN dr ks g o m).1 (ks.getD (m + 1) 0)).1 ⟨((seqN dr ks g o m).2 : Int), ((dr (seqN dr ks g o m).1 (ks.getD (m + 1) 0)).2.1 : Int), []⟩, (dr (seqN dr ks g o m).1 (ks.getD (m + 1) 0)).2.2)
def manyG (dr : GraphD → Nat → Drawn) (ss : List StepD) (g : GraphD) (k : Nat) (first last : Int) : Drawn :=
  let r := manyN dr ss g.nodes.length (kidsL ss k) (addN g (bareN first k)) (kidsL ss k).length
  (joinN r.2 r.1.nodes.length (addN r.1 (bareN last k)) r.2.length, g.nodes.length, r.1.nodes.length)
def guardG (dr : GraphD → Nat → Drawn) (ss : List StepD) (g : GraphD) (k : Nat) : Drawn :=
  let q1 := dr (addN g ⟨11, k, ⟨#[]⟩, (PJ ss k).arg, []⟩) ((kidsL ss k).getD 0 0)
  let q2 := dr (addN q1.1 (bareN 12 k)) ((kidsL ss k).getD 1 0)
  let e := q2.1.nodes.length
  (addF (addF (addF (addF (addF (addN q2.1 (bareN 13 k)) ⟨(g.nodes.length : Int), (q1.2.1 : Int), []⟩) ⟨(g.nodes.length : Int), (q2.2.1 : Int), []⟩) ⟨(q1.2.2 : Int), (q1.1.nodes.length : Int), []⟩) ⟨(q1.1.nodes.length : Int), (e : Int), []⟩) ⟨(q2.2.2 : Int), (e : Int), []⟩, g.nodes.length, e)
def seqG (dr : GraphD → Nat → Drawn) (ss : List StepD) (g : GraphD) (k : Nat) : Drawn :=
  let q := dr g ((kidsL ss k).getD 0 0)
  let r := seqN dr (kidsL ss k) q.1 q.2.2 ((kidsL ss k).length - 1)
  (r.1, q.2.1, r.2)
def loneK (kind : Int) : Int := if kind = 2 then 3 else if kind = 5 then 4 else if kind = 6 then 5 else if kind = 7 then 6 else 0
def loneG (ss : List StepD) (g : GraphD) (k : Nat) : Drawn :=
  (addN g ⟨loneK (PJ ss k).kind, k, (PJ ss k).name, (PJ ss k).arg, (PJ ss k).expr⟩, g.nodes.length, g.nodes.length)
/-- A step drawn: the graph with it, which node enters it, which one leaves it. -/
def stepG (ss : List StepD) : Nat → GraphD → Nat → Drawn
  | 0, g, _ => (g, 0, 0)
  | f + 1, g, k => if (PJ ss k).kind = 3 then manyG (stepG ss f) ss g k 7 8 else if (PJ ss k).kind = 4 then manyG (stepG ss f) ss g k 9 10 else if (PJ ss k).kind = 8 then guardG (stepG ss f) ss g k else if (PJ ss k).kind = 1 then seqG (stepG ss f) ss g k else loneG ss g k
/-- At most that many nodes and flows more. -/
def NB : Nat → Nat
  | 0 => 0
  | f + 1 => 3 + 24 * NB f
def FB : Nat → Nat
  | 0 => 0
  | f + 1 => 48 + 24 * FB f
theorem NB8 : NB 8 ≤ 100000000000 := by decide
theorem FB8 : FB 8 ≤ 500000000000 := by decide
structure Few (f : Nat) (g g' : GraphD) : Prop where
  n : g'.nodes.length ≤ g.nodes.length + NB f
  f : g'.flows.length ≤ g.flows.length + FB f
  le : g.nodes.length ≤ g'.nodes.length
theorem many_few {dr : GraphD → Nat → Drawn} {ss : List StepD} {a : Nat} {ks : List Nat} {g : GraphD} {f : Nat} (h : ∀ g k, Few f g (dr g k).1) : ∀ m, (manyN dr ss a ks g m).1.nodes.length ≤ g.nodes.length + m * NB f ∧ (manyN dr ss a ks g m).1.flows.length ≤ g.flows.length + m * (FB f + 1) ∧ (manyN dr ss a ks g m).2.length = m ∧ g.nodes.length ≤ (manyN dr ss a ks g m).1.nodes.length
  | 0 => by simp [manyN]
  | m + 1 => by
    obtain ⟨h1, h2, h3, h4⟩ := many_few (ks := ks) (a := a) (ss := ss) (g := g) h m
    have h5 := h (manyN dr ss a ks g m).1 (ks.getD m 0)
    have e1 := h5.n
    have e2 := h5.f
    have e3 := h5.le
    simp only [manyN]
    rw [addF_n, addF_f, List.length_append, List.length_singleton, Nat.succ_mul, Nat.succ_mul]
    omega
theorem join_few {outs : List Nat} {b : Nat} {g : GraphD} : ∀ m, (joinN outs b g m).nodes = g.nodes ∧ (joinN outs b g m).flows.length = g.flows.length + m
  | 0 => ⟨rfl, rfl⟩
  | m + 1 => by
    obtain ⟨h1, h2⟩ := join_few (outs := outs) (b := b) (g := g) m
    simp only [joinN]
    rw [addF_n, addF_f, h1, h2]
    exact ⟨rfl, by omega⟩
theorem seq_few {dr : GraphD → Nat → Drawn} {ks : List Nat} {g : GraphD} {o f : Nat} (h : ∀ g k, Few f g (dr g k).1) : ∀ m, (seqN dr ks g o m).1.nodes.length ≤ g.nodes.length + m * NB f ∧ (seqN dr ks g o m).1.flows.length ≤ g.flows.length + m * (FB f + 1) ∧ g.nodes.length ≤ (seqN dr ks g o m).1.nodes.length
  | 0 => by simp [seqN]
  | m + 1 => by
    obtain ⟨h1, h2, h4⟩ := seq_few (ks := ks) (o := o) (g := g) h m
    have h5 := h (seqN dr ks g o m).1 (ks.getD (m + 1) 0)
    have e1 := h5.n
    have e2 := h5.f
    have e3 := h5.le
    simp only [seqN]
    rw [addF_n, addF_f, Nat.succ_mul, Nat.succ_mul]
    omega
theorem kids_le {ss : List StepD} (hl : ss.length ≤ 24) (k : Nat) : (kidsL ss k).length ≤ 24 := Nat.le_trans (Pf.kidsN_le ss ss.length k) hl
theorem step_few {ss : List StepD} (hl : ss.length ≤ 24) : ∀ f g k, Few f g (stepG ss f g k).1
  | 0, g, k => ⟨by simp [stepG], by simp [stepG], Nat.le_refl _⟩
  | f + 1, g, k => by
    have ih := step_few hl f
    have hk := kids_le hl k
    have hmany : ∀ a b, Few (f + 1) g (manyG (stepG ss f) ss g k a b).1 := fun a b => by
      obtain ⟨h1, h2, h3, h4⟩ := many_few (ss := ss) (a := g.nodes.length) (ks := kidsL ss k) (g := addN g (bareN a k)) ih (kidsL ss k).length
      obtain ⟨h5, h6⟩ := join_few (outs := (manyN (stepG ss f) ss g.nodes.length (kidsL ss k) (addN g (bareN a k)) (kidsL ss k).length).2) (b := (manyN (stepG ss f) ss g.nodes.length (kidsL ss k) (addN g (bareN a k)) (kidsL ss k).length).1.nodes.length) (g := addN (manyN (stepG ss f) ss g.nodes.length (kidsL ss k) (addN g (bareN a k)) (kidsL ss k).length).1 (bareN b k)) (manyN (stepG ss f) ss g.nodes.length (kidsL ss k) (addN g (bareN a k)) (kidsL ss k).length).2.length
      have e1 : (kidsL ss k).length * NB f ≤ 24 * NB f := Nat.mul_le_mul_right _ hk
      have e2 : (kidsL ss k).length * (FB f + 1) ≤ 24 * (FB f + 1) := Nat.mul_le_mul_right _ hk
      rw [addN_n] at h1 h4
      rw [addN_f] at h2
      rw [addN_f] at h6
      refine ⟨?_, ?_, ?_⟩
      · show (joinN _ _ _ _).nodes.length ≤ _
        rw [h5, addN_n, NB]
        omega
      · show (joinN _ _ _ _).flows.length ≤ _
        rw [h6, h3, FB]
        omega
      · show _ ≤ (joinN _ _ _ _).nodes.length
        rw [h5, addN_n]
        omega
    unfold stepG
    split
    · exact hmany 7 8
    split
    · exact hmany 9 10
    split
    · have a1 := ih (addN g ⟨11, k, ⟨#[]⟩, (PJ ss k).arg, []⟩) ((kidsL ss k).getD 0 0)
      have a2 := ih (addN (stepG ss f (addN g ⟨11, k, ⟨#[]⟩, (PJ ss k).arg, []⟩) ((kidsL ss k).getD 0 0)).1 (bareN 12 k)) ((kidsL ss k).getD 1 0)
      have b1 := a1.n
      have b2 := a1.f
      have b3 := a1.le
      have c1 := a2.n
      have c2 := a2.f
      have c3 := a2.le
      rw [addN_n] at b1 b3 c1 c3
      rw [addN_f] at b2 c2
      refine ⟨?_, ?_, ?_⟩
      · simp only [guardG, addF_n, addN_n]; rw [NB]; omega
      · simp only [guardG, addF_f, addN_f]; rw [FB]; omega
      · simp only [guardG, addF_n, addN_n]; omega
    split
    · have a1 := ih g ((kidsL ss k).getD 0 0)
      obtain ⟨h1, h2, h3⟩ := seq_few (ks := kidsL ss k) (g := (stepG ss f g ((kidsL ss k).getD 0 0)).1) (o := (stepG ss f g ((kidsL ss k).getD 0 0)).2.2) ih ((kidsL ss k).length - 1)
      have b1 := a1.n
      have b2 := a1.f
      have b3 := a1.le
      have e1 : ((kidsL ss k).length - 1) * NB f ≤ 23 * NB f := Nat.mul_le_mul_right _ (by omega)
      have e2 : ((kidsL ss k).length - 1) * (FB f + 1) ≤ 23 * (FB f + 1) := Nat.mul_le_mul_right _ (by omega)
      refine ⟨?_, ?_, ?_⟩
      · simp only [seqG]; rw [NB]; omega
      · simp only [seqG]; rw [FB]; omega
      · simp only [seqG]; omega
    · refine ⟨?_, ?_, ?_⟩
      · simp only [loneG, addN_n]; rw [NB]; omega
      · simp only [loneG, addN_f]; rw [FB]; omega
      · simp only [loneG, addN_n]; omega
/-! ### how deep a step stands -/
open Tr (Chain cutTo top)
theorem chain_one {es : List Tr.ElemD} : ∀ {l m : List Nat}, Chain es l → Chain es m → top l = top m → l = m
  | [], [], _, _, _ => rfl
  | [], b :: m, _, _, h => by have : (-1 : Int) = (b : Int) := h; omega
  | a :: l, [], _, _, h => by have : (a : Int) = (-1 : Int) := h; omega
  | a :: l, b :: m, h1, h2, h => by
    have e : a = b := by have : (a : Int) = (b : Int) := h; omega
    subst e
    obtain ⟨⟨e1, x1, y1⟩, _, z1⟩ := h1
    obtain ⟨⟨e2, x2, y2⟩, _, z2⟩ := h2
    have : e1 = e2 := Option.some.inj (x1.symm.trans x2)
    subst this
    rw [chain_one z1 z2 (y1.symm.trans y2)]
open Pf (path es pFault of_p walked first_to first_all PJ_eq oneC)
theorem kid_mem {ss : List StepD} {k j : Nat} (h : j ∈ kidsL ss k) : j < ss.length ∧ (PJ ss j).parent = (k : Int) := by
  unfold kidsL Pf.kidsN at h
  have := List.mem_filter.1 h
  exact ⟨List.mem_range.1 this.1, by simpa using this.2⟩
def deepG (ss : List StepD) (k : Nat) : Nat := (path ss (k + 1)).length
theorem deep_le {ss : List StepD} {k : Nat} (h : pFault ss = 0) (hk : k < ss.length) : deepG ss k ≤ 7 := (walked (ss := ss) (i := k + 1) hk (first_to (of_p h).2.1 hk)).deep
theorem kid_deep {ss : List StepD} {k j : Nat} (h : pFault ss = 0) (hk : k < ss.length) (hj : j ∈ kidsL ss k) : deepG ss j = deepG ss k + 1 := by
  obtain ⟨hj1, hj2⟩ := kid_mem hj
  have w1 := (walked (ss := ss) (i := j + 1) hj1 (first_to (of_p h).2.1 hj1)).chain
  have w2 := (walked (ss := ss) (i := k + 1) hk (first_to (of_p h).2.1 hk)).chain
  have e : path ss (j + 1) = j :: cutTo (PJ ss j).parent (path ss j) := rfl
  rw [e] at w1
  obtain ⟨⟨e1, x1, y1⟩, _, z1⟩ := w1
  have hp : e1.parent = (k : Int) := by
    rw [← hj2]
    have : (es ss)[j]? = some ⟨ss[j].name, ss[j].parent, []⟩ := by simp [es, hj1]
    rw [x1] at this
    cases this
    rw [PJ_eq hj1]
  have h3 := chain_one z1 w2 (by rw [← y1, hp]; rfl)
  unfold deepG
  rw [e, h3]
  simp
end Gr
end Go.Proofs.YtfgckeoigkoflaaGreatDoor
