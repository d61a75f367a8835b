/- The specification's GraphFault, FlowsFrom and FlowsTo. -/
import Derived.Test.YtepfkfhbkbkepaaDoorGsB
import Derived.Test.YtepfkfhbkbkepaaDoorIntsX
import Derived.Maps.AppendAt
import Derived.RangeFuncBox
namespace Go.Proofs.YtepfkfhbkbkepaaDoor
open Go.RowKit
set_option linter.unusedVariables false
namespace Gr
open Ex (hid inR specIn)
open Nd (NodeD)
open Gn (GNodeD)
open Fl (FlowD)
open Ints (vals IntsAt)
open Rc (old_cell old_free setB)
theorem infoI64 : (Tryd.prog.info? 2).map (fun i => (i.zero, i.size, i.bytes)) = some (some (.int .i64 0), 1, 8) := by kernel_rfl
theorem inf_parts {P : Program} {e : TypeId} {z : Value} {sz bytes : Nat} (h : (P.info? e).map (fun i => (i.zero, i.size, i.bytes)) = some (some z, sz, bytes)) : ∃ i, P.info? e = some i ∧ i.zero = some z ∧ i.size = sz ∧ i.bytes = bytes := by
  cases hi : P.info? e with
  | none => rw [hi] at h; cases h
  | some i =>
    rw [hi] at h
    simp only [Option.map_some, Option.some.injEq, Prod.mk.injEq] at h
    exact ⟨i, rfl, h.1, h.2.1, h.2.2⟩
theorem row_lt {w : World} {B : Nat} {e : TypeId} {size n b : Nat} {v : Value} {xs : List Value} (h : w.ownsRow B e size v n xs) (hb : v.ownBlock = some b) : B ≤ b ∧ b < w.heap.size := h.lt b hb
def askC (g : GraphD) (node : Int) : Int := if gFault g ≠ 0 then gFault g else if inR node 0 ((g.nodes.length : Int) - 1) = false then 3 else 0
theorem ask_fault {g : GraphD} {node : Int} (h : gFault g ≠ 0) : askC g node = gFault g := by unfold askC; rw [if_pos h]
theorem ask_range {g : GraphD} {node : Int} (h : gFault g = 0) (h2 : inR node 0 ((g.nodes.length : Int) - 1) = false) : askC g node = 3 := by unfold askC; rw [if_neg (by simp [h]), if_pos h2]
theorem ask_ok {g : GraphD} {node : Int} (h : gFault g = 0) (h2 : inR node 0 ((g.nodes.length : Int) - 1) = true) : askC g node = 0 := by unfold askC; rw [if_neg (by simp [h]), if_neg (by simp [h2])]
def fromN (fl : List FlowD) (node : Int) (n : Nat) : List Int := ((List.range n).filter fun i => (FJ fl i).src == node).map fun (i : Nat) => (i : Int)
theorem from_succ (fl : List FlowD) (node : Int) (n : Nat) : fromN fl node (n + 1) = fromN fl node n ++ (if (FJ fl n).src = node then [(n : Int)] else []) := by
  unfold fromN
  rw [List.range_succ, List.filter_append, List.map_append]
  congr 1
  by_cases h : (FJ fl n).src = node
  · simp [h]
  · simp [h]
theorem from_le (fl : List FlowD) (node : Int) (n : Nat) : (fromN fl node n).length ≤ n := by
  unfold fromN
  have := List.length_filter_le (fun i => (FJ fl i).src == node) (List.range n)
  simpa using this
def fromL (g : GraphD) (node : Int) : List Int := if askC g node = 0 then fromN g.flows node g.flows.length else []
theorem fromL_le (g : GraphD) (node : Int) : (fromL g node).length ≤ g.flows.length := by
  unfold fromL
  split
  · exact from_le _ _ _
  · exact Nat.zero_le _
set_option maxRecDepth 100000 in
set_option maxHeartbeats 4000000 in
theorem specFlowsFrom1 (B b : Nat) (g : GraphD) (vn vf : Value) (node : Int) (w : World) (hl : g.flows.length ≤ 1048576) (hb : b < w.heap.size) (hb1 : w.cell? ⟨b, 1, none⟩ = some vf) (ha : At w B vn vf g) :
    Calls Tryd.prog 14 #[.pointer (some ⟨b, 0, none⟩), .int .i64 node] w fun e w' => (∃ u, e = .returned u ∧ w'.ownsRow w.heap.size 2 1 u (fromN g.flows node g.flows.length).length (vals (fromN g.flows node g.flows.length))) ∧ Below w.heap.size w w' := by
  obtain ⟨af, cf, rfl⟩ := ha.flows.slice
  have HA := hid ha
  clear ha
  obtain ⟨j0, hj, hy0, hy1, hy2⟩ := inf_parts infoI64
  go_enter Tryd.func14, Tryd.ntmps14
  go_wp2_with fail
  go_loopw [5, 6] (fun o i wr => ∃ n : Nat, i = .int .i64 n ∧ n ≤ g.flows.length ∧ (∃ a5 c5, o = .slice a5 (fromN g.flows node n).length c5) ∧ Hid (wr.ownsRow w.heap.size 2 1 o (fromN g.flows node n).length (vals (fromN g.flows node n))) ∧ Below w.heap.size w wr) (fun _ i _ => g.flows.length - (intOf i).toNat)
  case atStart => exact ⟨0, rfl, Nat.zero_le _, ⟨_, _, rfl⟩, World.ownsRow_made w #[] 0 (Nat.le_refl _) (by unfold maxLen; omega) rfl, (Below.refl _ w).alloc (Nat.le_refl _) _⟩
  case round =>
    obtain ⟨n, rfl, hn, ⟨a5, c5, rfl⟩, HO, hbel⟩ := hrel
    have hz := hbel.size
    have k1 := old_cell hbel hb hb1
    have hbw := Nat.lt_of_lt_of_le hb hz
    by_cases hlt : n < g.flows.length
    · obtain ⟨gf, o, vx, rfl, hg, c0, c1, c2, _⟩ := (HA.out.flows.below hbel).at hlt
      have q1 : (n : Int) < (g.flows.length : Int) := by omega
      have hle := from_le g.flows node n
      have HN := hid (from_succ g.flows node n)
      rw [FJ_eq hlt] at HN
      clear c2
      by_cases he : g.flows[n].src = node
      · have HK : Hid (fromN g.flows node (n + 1) = fromN g.flows node n ++ [(n : Int)]) := hid (by rw [HN.out, if_pos he])
        have b1 : (g.flows[n].src == node) = true := beq_iff_eq.2 he
        clear he HN
        generalize fromN g.flows node n = ks at *
        have hown := HO.out
        go_wp2_with (at_builtin; go_must (refine wpList_append_own _ rfl _ _ 47 rfl w.heap.size 2 j0 (.int .i64 0) 1 8 Tryd.underlying47 hj hy0 hy1 hy2 rfl (by decide) _ _ _ rfl (hown.alloc _) ⟨wr.heap.size, 0, none⟩ 1 1 [.int .i64 (n : Int)] rfl rfl (cell_one_new _ _ _) (by simp [Value.oneCell']) (by unfold maxLen; omega) (by omega) (by simp; omega) ?_); intro v' w2 hown' hgrow _; obtain ⟨g9, c9, rfl⟩ := ownsRow_succ hown')
        have hB2 : Below w.heap.size w w2 := (hbel.alloc hz _).grown hgrow (by simp; omega) (fun b e => (row_lt hown e).1)
        refine ⟨⟨n + 1, by simp, by omega, ⟨some ⟨g9, 0, none⟩, c9, by rw [HK.out, List.length_append]; rfl⟩, hid ?_, hB2⟩, by simp [intOf]; omega⟩
        rw [HK.out]
        simpa [vals] using hown'
      · have HK : Hid (fromN g.flows node (n + 1) = fromN g.flows node n) := hid (by rw [HN.out, if_neg he, List.append_nil])
        have b1 : (g.flows[n].src == node) = false := beq_eq_false_iff_ne.2 he
        clear he HN
        go_wp2
        refine ⟨⟨n + 1, by simp, by omega, ⟨a5, c5, by rw [HK.out]⟩, hid ?_, hbel⟩, by simp [intOf]; omega⟩
        rw [HK.out]
        exact HO.out
    · have hne : n = g.flows.length := by omega
      have HE := hid hne
      have q1 : ¬ (n : Int) < (g.flows.length : Int) := by omega
      clear hne
      go_wp2
      go_ret
      refine ⟨⟨_, rfl, ?_⟩, hbel⟩
      rw [← HE.out]
      exact HO.out
def toN (fl : List FlowD) (node : Int) (n : Nat) : List Int := ((List.range n).filter fun i => (FJ fl i).dst == node).map fun (i : Nat) => (i : Int)
theorem to_succ (fl : List FlowD) (node : Int) (n : Nat) : toN fl node (n + 1) = toN fl node n ++ (if (FJ fl n).dst = node then [(n : Int)] else []) := by
  unfold toN
  rw [List.range_succ, List.filter_append, List.map_append]
  congr 1
  by_cases h : (FJ fl n).dst = node
  · simp [h]
  · simp [h]
theorem to_le (fl : List FlowD) (node : Int) (n : Nat) : (toN fl node n).length ≤ n := by
  unfold toN
  have := List.length_filter_le (fun i => (FJ fl i).dst == node) (List.range n)
  simpa using this
def toL (g : GraphD) (node : Int) : List Int := if askC g node = 0 then toN g.flows node g.flows.length else []
theorem toL_le (g : GraphD) (node : Int) : (toL g node).length ≤ g.flows.length := by
  unfold toL
  split
  · exact to_le _ _ _
  · exact Nat.zero_le _
end Gr
end Go.Proofs.YtepfkfhbkbkepaaDoor
