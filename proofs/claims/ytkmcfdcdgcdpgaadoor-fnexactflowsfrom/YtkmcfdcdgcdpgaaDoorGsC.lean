/- The specification's GraphFault, FlowsFrom and FlowsTo. -/
import Derived.Test.YtkmcfdcdgcdpgaaDoorGsB
import Derived.Test.YtkmcfdcdgcdpgaaDoorIntsX
import Derived.Maps.AppendAt
import Derived.RangeFuncBox
namespace Go.Proofs.YtkmcfdcdgcdpgaaDoor
open Go.RowKit
set_option linter.unusedVariables false
namespace Gr
open Ex (hid inR specIn)
open Nd (NodeD)
open Gn (GNodeD)
open Fl (FlowD)
open Ints (vals IntsAt)
open Rc (old_cell old_free setB)
theorem infoI64 : (Tryd.prog.info? 2).map (fun i => (i.zero, i.size, i.bytes)) = some (some (.int .i64 0), 1, 8) := by kernel_rfl
theorem inf_parts {P : Program} {e : TypeId} {z : Value} {sz bytes : Nat} (h : (P.info? e).map (fun i => (i.zero, i.size, i.bytes)) = some (some z, sz, bytes)) : ∃ i, P.info? e = some i ∧ i.zero = some z ∧ i.size = sz ∧ i.bytes = bytes := by
  cases hi : P.info? e with
  | none => rw [hi] at h; cases h
  | some i =>
    rw [hi] at h
    simp only [Option.map_some, Option.some.injEq, Prod.mk.injEq] at h
    exact ⟨i, rfl, h.1, h.2.1, h.2.2⟩
theorem row_lt {w : World} {B : Nat} {e : TypeId} {size n b : Nat} {v : Value} {xs : List Value} (h : w.ownsRow B e size v n xs) (hb : v.ownBlock = some b) : B ≤ b ∧ b < w.heap.size := h.lt b hb
set_option maxRecDepth 100000 in
set_option maxHeartbeats 1000000 in
theorem specGraphFault (B : Nat) (g : GraphD) (vn vf : Value) (w : World) (hsm : Small 1048576 g) (ha : At w B vn vf g) :
    Calls Tryd.prog 7 #[.agg #[vn, vf]] w fun e w' => e = .returned (.int .i64 (gFault g)) ∧ Below w.heap.size w w' := by
  have hx : Below w.heap.size w (w.alloc (.cells #[vn, vf] 31)) := (Below.refl _ w).alloc (Nat.le_refl _) _
  have HF := hid (specFault1 B w.heap.size g vn vf (w.alloc (.cells #[vn, vf] 31)) hsm (by simp) (by simp) (by simp) (ha.below hx))
  have HX := hid hx
  obtain ⟨an, cn, rfl⟩ := ha.nodes.slice
  obtain ⟨af, cf, rfl⟩ := ha.flows.slice
  clear ha hsm hx
  go_enter Tryd.func7, Tryd.ntmps7
  go_wp2_with fail
  refine HF.out.mono ?_
  rintro e w1 ⟨rfl, hb1⟩
  have HB := hid (HX.out.trans (hb1.mono HX.out.size))
  clear hb1
  go_wp2
  go_ret
  exact ⟨rfl, HB.out⟩
def askC (g : GraphD) (node : Int) : Int := if gFault g ≠ 0 then gFault g else if inR node 0 ((g.nodes.length : Int) - 1) = false then 3 else 0
theorem ask_fault {g : GraphD} {node : Int} (h : gFault g ≠ 0) : askC g node = gFault g := by unfold askC; rw [if_pos h]
theorem ask_range {g : GraphD} {node : Int} (h : gFault g = 0) (h2 : inR node 0 ((g.nodes.length : Int) - 1) = false) : askC g node = 3 := by unfold askC; rw [if_neg (by simp [h]), if_pos h2]
theorem ask_ok {g : GraphD} {node : Int} (h : gFault g = 0) (h2 : inR node 0 ((g.nodes.length : Int) - 1) = true) : askC g node = 0 := by unfold askC; rw [if_neg (by simp [h]), if_neg (by simp [h2])]
set_option maxRecDepth 100000 in
set_option maxHeartbeats 2000000 in
theorem specAsked (B b : Nat) (g : GraphD) (vn vf : Value) (node : Int) (w : World) (hsm : Small 1048576 g) (hb : b < w.heap.size) (hb0 : w.cell? ⟨b, 0, none⟩ = some vn) (hb1 : w.cell? ⟨b, 1, none⟩ = some vf) (ha : At w B vn vf g) :
    Calls Tryd.prog 28 #[.pointer (some ⟨b, 0, none⟩), .int .i64 node] w fun e w' => e = .returned (.int .i64 (askC g node)) ∧ Below w.heap.size w w' := by
  have HF := hid (specFault1 B b g vn vf w hsm hb hb0 hb1 ha)
  have hn20 := hsm.nodes.1
  obtain ⟨an, cn, rfl⟩ := ha.nodes.slice
  obtain ⟨af, cf, rfl⟩ := ha.flows.slice
  have HI := hid (fun wx => specIn node 0 ((g.nodes.length : Int) - 1) wx)
  have H1 := hid (fun (h : gFault g ≠ 0) => ask_fault (node := node) h)
  have H2 := hid (fun (h : gFault g = 0) => ask_range (node := node) h)
  have H3 := hid (fun (h : gFault g = 0) => ask_ok (node := node) h)
  clear ha hsm
  go_enter Tryd.func28, Tryd.ntmps28
  go_wp2_with fail
  refine HF.out.mono ?_
  rintro e w1 ⟨rfl, hx1⟩
  have k0 := old_cell hx1 hb hb0
  have hbl := Nat.lt_of_lt_of_le hb hx1.size
  have HB := hid hx1
  clear hx1
  by_cases hf : gFault g = 0
  · have H2' := hid (H2.out hf)
    have H3' := hid (H3.out hf)
    rw [hf]
    clear hf H1 H2 H3 HF
    have hwn : IntKind.i64.wrap ((g.nodes.length : Int) - 1) = (g.nodes.length : Int) - 1 := IntWalk.i64_in _ (by omega)
    go_wp2_with fail
    refine (HI.out _).mono ?_
    rintro e w2 ⟨rfl, hw2⟩
    replace hw2 := hw2.symm
    subst hw2
    cases h2 : inR node 0 ((g.nodes.length : Int) - 1)
    · have HX := hid (H2'.out h2)
      go_wp2
      go_ret
      exact ⟨by rw [HX.out]; rfl, HB.out⟩
    · have HX := hid (H3'.out h2)
      go_wp2
      go_ret
      exact ⟨by rw [HX.out]; rfl, HB.out⟩
  · have HX := hid (H1.out hf)
    have b1 : (gFault g != 0) = true := bne_iff_ne.2 hf
    generalize hgf : gFault g = gf at *
    clear hf hgf
    go_wp2
    go_ret
    exact ⟨by rw [HX.out]; rfl, HB.out⟩
def fromN (fl : List FlowD) (node : Int) (n : Nat) : List Int := ((List.range n).filter fun i => (FJ fl i).src == node).map fun (i : Nat) => (i : Int)
theorem from_succ (fl : List FlowD) (node : Int) (n : Nat) : fromN fl node (n + 1) = fromN fl node n ++ (if (FJ fl n).src = node then [(n : Int)] else []) := by
  unfold fromN
  rw [List.range_succ, List.filter_append, List.map_append]
  congr 1
  by_cases h : (FJ fl n).src = node
  · simp [h]
  · simp [h]
theorem from_le (fl : List FlowD) (node : Int) (n : Nat) : (fromN fl node n).length ≤ n := by
  unfold fromN
  have := List.length_filter_le (fun i => (FJ fl i).src == node) (List.range n)
  simpa using this
def fromL (g : GraphD) (node : Int) : List Int := if askC g node = 0 then fromN g.flows node g.flows.length else []
theorem fromL_le (g : GraphD) (node : Int) : (fromL g node).length ≤ g.flows.length := by
  unfold fromL
  split
  · exact from_le _ _ _
  · exact Nat.zero_le _
set_option maxRecDepth 100000 in
set_option maxHeartbeats 4000000 in
theorem specFlowsFrom1 (B b : Nat) (g : GraphD) (vn vf : Value) (node : Int) (w : World) (hl : g.flows.length ≤ 1048576) (hb : b < w.heap.size) (hb1 : w.cell? ⟨b, 1, none⟩ = some vf) (ha : At w B vn vf g) :
    Calls Tryd.prog 29 #[.pointer (some ⟨b, 0, none⟩), .int .i64 node] w fun e w' => (∃ u, e = .returned u ∧ w'.ownsRow w.heap.size 2 1 u (fromN g.flows node g.flows.length).length (vals (fromN g.flows node g.flows.length))) ∧ Below w.heap.size w w' := by
  obtain ⟨af, cf, rfl⟩ := ha.flows.slice
  have HA := hid ha
  clear ha
  obtain ⟨j0, hj, hy0, hy1, hy2⟩ := inf_parts infoI64
  go_enter Tryd.func29, Tryd.ntmps29
  go_wp2_with fail
  go_loopw [5, 6] (fun o i wr => ∃ n : Nat, i = .int .i64 n ∧ n ≤ g.flows.length ∧ (∃ a5 c5, o = .slice a5 (fromN g.flows node n).length c5) ∧ Hid (wr.ownsRow w.heap.size 2 1 o (fromN g.flows node n).length (vals (fromN g.flows node n))) ∧ Below w.heap.size w wr) (fun _ i _ => g.flows.length - (intOf i).toNat)
  case atStart => exact ⟨0, rfl, Nat.zero_le _, ⟨_, _, rfl⟩, World.ownsRow_made w #[] 0 (Nat.le_refl _) (by unfold maxLen; omega) rfl, (Below.refl _ w).alloc (Nat.le_refl _) _⟩
  case round =>
    obtain ⟨n, rfl, hn, ⟨a5, c5, rfl⟩, HO, hbel⟩ := hrel
    have hz := hbel.size
    have k1 := old_cell hbel hb hb1
    have hbw := Nat.lt_of_lt_of_le hb hz
    by_cases hlt : n < g.flows.length
    · obtain ⟨gf, o, vx, rfl, hg, c0, c1, c2, _⟩ := (HA.out.flows.below hbel).at hlt
      have q1 : (n : Int) < (g.flows.length : Int) := by omega
      have hle := from_le g.flows node n
      have HN := hid (from_succ g.flows node n)
      rw [FJ_eq hlt] at HN
      clear c2
      by_cases he : g.flows[n].src = node
      · have HK : Hid (fromN g.flows node (n + 1) = fromN g.flows node n ++ [(n : Int)]) := hid (by rw [HN.out, if_pos he])
        have b1 : (g.flows[n].src == node) = true := beq_iff_eq.2 he
        clear he HN
        generalize fromN g.flows node n = ks at *
        have hown := HO.out
        go_wp2_with (at_builtin; go_must (refine wpList_append_own _ rfl _ _ 35 rfl w.heap.size 2 j0 (.int .i64 0) 1 8 Tryd.underlying35 hj hy0 hy1 hy2 rfl (by decide) _ _ _ rfl (hown.alloc _) ⟨wr.heap.size, 0, none⟩ 1 1 [.int .i64 (n : Int)] rfl rfl (cell_one_new _ _ _) (by simp [Value.oneCell']) (by unfold maxLen; omega) (by omega) (by simp; omega) ?_); intro v' w2 hown' hgrow _; obtain ⟨g9, c9, rfl⟩ := ownsRow_succ hown')
        have hB2 : Below w.heap.size w w2 := (hbel.alloc hz _).grown hgrow (by simp; omega) (fun b e => (row_lt hown e).1)
        refine ⟨⟨n + 1, by simp, by omega, ⟨some ⟨g9, 0, none⟩, c9, by rw [HK.out, List.length_append]; rfl⟩, hid ?_, hB2⟩, by simp [intOf]; omega⟩
        rw [HK.out]
        simpa [vals] using hown'
      · have HK : Hid (fromN g.flows node (n + 1) = fromN g.flows node n) := hid (by rw [HN.out, if_neg he, List.append_nil])
        have b1 : (g.flows[n].src == node) = false := beq_eq_false_iff_ne.2 he
        clear he HN
        go_wp2
        refine ⟨⟨n + 1, by simp, by omega, ⟨a5, c5, by rw [HK.out]⟩, hid ?_, hbel⟩, by simp [intOf]; omega⟩
        rw [HK.out]
        exact HO.out
    · have hne : n = g.flows.length := by omega
      have HE := hid hne
      have q1 : ¬ (n : Int) < (g.flows.length : Int) := by omega
      clear hne
      go_wp2
      go_ret
      refine ⟨⟨_, rfl, ?_⟩, hbel⟩
      rw [← HE.out]
      exact HO.out
set_option maxRecDepth 100000 in
set_option maxHeartbeats 4000000 in
theorem specFlowsFrom (B : Nat) (g : GraphD) (vn vf : Value) (node : Int) (w : World) (hsm : Small 1048576 g) (ha : At w B vn vf g) :
    Calls Tryd.prog 11 #[.agg #[vn, vf], .int .i64 node] w fun e w' => (∃ u, e = .returned (.agg #[.int .i64 (askC g node), u]) ∧ w'.ownsRow (w.heap.size + 1) 2 1 u (fromL g node).length (vals (fromL g node))) ∧ Below w.heap.size w w' := by
  have hx : Below w.heap.size w ((w.alloc (.cells #[vn, vf] 31)).alloc (.cells #[.int .i64 0, .slice none 0 0] 37)) := ((Below.refl _ w).alloc (Nat.le_refl _) _).alloc (by simp) _
  have hfl := hsm.flows.1
  have h0 : ((w.alloc (.cells #[vn, vf] 31)).alloc (.cells #[.int .i64 0, .slice none 0 0] 37)).cell? ⟨w.heap.size, 0, none⟩ = some vn := by rw [World.cell?_alloc_lt _ _ _ (by simp)]; simp
  have h1 : ((w.alloc (.cells #[vn, vf] 31)).alloc (.cells #[.int .i64 0, .slice none 0 0] 37)).cell? ⟨w.heap.size, 1, none⟩ = some vf := by rw [World.cell?_alloc_lt _ _ _ (by simp)]; simp
  have hz : ((w.alloc (.cells #[vn, vf] 31)).alloc (.cells #[.int .i64 0, .slice none 0 0] 37)).heap.size = w.heap.size + 1 + 1 := by simp
  have HAX := hid (ha.below hx)
  have HF := hid (specAsked B w.heap.size g vn vf node _ hsm (by omega) h0 h1 HAX.out)
  have hrb : ((w.alloc (.cells #[vn, vf] 31)).alloc (.cells #[.int .i64 0, .slice none 0 0] 37)).heap[w.heap.size + 1]? = some (.cells #[.int .i64 0, .slice none 0 0] 37) := by
    have := heap_alloc_new (w.alloc (.cells #[vn, vf] 31)) (.cells #[.int .i64 0, .slice none 0 0] 37)
    rw [World.size_alloc] at this
    exact this
  have HX := hid hx
  obtain ⟨an, cn, rfl⟩ := ha.nodes.slice
  obtain ⟨af, cf, rfl⟩ := ha.flows.slice
  have HL0 : Hid (askC g node ≠ 0 → fromL g node = []) := hid (fun h => by unfold fromL; rw [if_neg h])
  have HL1 : Hid (askC g node = 0 → fromL g node = fromN g.flows node g.flows.length) := hid (fun h => by unfold fromL; rw [if_pos h])
  clear ha hsm hx
  go_enter Tryd.func11, Tryd.ntmps11
  go_wp2_with fail
  generalize (w.alloc (.cells #[.slice an g.nodes.length cn, .slice af g.flows.length cf] 31)).alloc (.cells #[.int .i64 0, .slice none 0 0] 37) = w0 at *
  refine HF.out.mono ?_
  rintro e w1 ⟨rfl, hb1⟩
  have hz1 := hb1.size
  have l1 : w.heap.size + 1 < w1.heap.size := by omega
  have l0 : w.heap.size < w1.heap.size := by omega
  have hr1 := (hb1.block (w.heap.size + 1) (by omega)).trans hrb
  have r0 : w1.cell? ⟨w.heap.size + 1, 0, none⟩ = some (.int .i64 0) := by simp [World.cell?, hr1]
  have r1 : w1.cell? ⟨w.heap.size + 1, 1, none⟩ = some (.slice none 0 0) := by simp [World.cell?, hr1]
  have f0 : w1.frozen? ⟨w.heap.size + 1, 0, none⟩ = false := by simp [World.frozen?, hr1]
  have f1 : w1.frozen? ⟨w.heap.size + 1, 1, none⟩ = false := by simp [World.frozen?, hr1]
  have k1 := old_cell hb1 (by omega) h1
  have HB1 := hid (HX.out.trans (hb1.mono (by omega)))
  have HA1 := hid (HAX.out.below hb1)
  have HRB := hid hr1
  clear hb1 hr1 hrb h0 h1 HF HAX hz
  by_cases hf : askC g node = 0
  · have HL := hid (HL1.out hf)
    have HZ := hid hf
    rw [hf]
    have HSF := hid (specFlowsFrom1 B w.heap.size g _ _ node w1 (by omega) l0 k1 HA1.out)
    clear hf r0 r1 f0 f1 HL0 HL1
    go_wp2_with fail
    refine HSF.out.mono ?_
    rintro e w2 ⟨⟨u, rfl, ho⟩, hb2⟩
    obtain ⟨au, cu, rfl⟩ := Ints.owns_slice ho
    have hr2 := (hb2.block (w.heap.size + 1) l1).trans HRB.out
    have r0 : w2.cell? ⟨w.heap.size + 1, 0, none⟩ = some (.int .i64 0) := by simp [World.cell?, hr2]
    have r1 : w2.cell? ⟨w.heap.size + 1, 1, none⟩ = some (.slice none 0 0) := by simp [World.cell?, hr2]
    have f0 : w2.frozen? ⟨w.heap.size + 1, 0, none⟩ = false := by simp [World.frozen?, hr2]
    have f1 : w2.frozen? ⟨w.heap.size + 1, 1, none⟩ = false := by simp [World.frozen?, hr2]
    have l2 : w.heap.size + 1 < w2.heap.size := Nat.lt_of_lt_of_le l1 hb2.size
    have HB2 := hid (HB1.out.trans (hb2.mono HB1.out.size))
    have HO := hid ho
    have hxl := from_le g.flows node g.flows.length
    generalize fromN g.flows node g.flows.length = xs at *
    clear hb2 hr2 ho HSF
    go_wp2
    refine bodyPost_ret (v := .agg #[.int .i64 0, .slice au xs.length cu]) (by simp [results, Tryd.results11, go_sem, r0, r1]) rfl ⟨⟨_, by rw [HZ.out], ?_⟩, setB (setB HB2.out (Nat.le_succ _) _) (Nat.le_succ _) _⟩
    rw [HL.out]
    refine ⟨HO.out.1, ?_⟩
    rcases HO.out.2 with hn | ⟨g', cap, cur, hv, hbg, hg, rest⟩
    · exact .inl hn
    · exact .inr ⟨g', cap, cur, hv, by omega, by rw [Below.heap_setCell _ _ _ _ (by dsimp only; omega), Below.heap_setCell _ _ _ _ (by dsimp only; omega)]; exact hg, rest⟩
  · have HL := hid (HL0.out hf)
    have b1 : (askC g node != 0) = true := bne_iff_ne.2 hf
    generalize hac : askC g node = ac at *
    have HAC := hid hac
    clear hf hac HL0 HL1
    go_wp2
    refine bodyPost_ret (v := .agg #[.int .i64 ac, .slice none 0 0]) (by simp [results, Tryd.results11, go_sem, r0, r1]) rfl ⟨⟨_, by rw [HAC.out], ?_⟩, setB (setB HB1.out (Nat.le_succ _) _) (Nat.le_succ _) _⟩
    rw [HL.out]
    exact World.ownsRow_nil _ _ _ 1
def toN (fl : List FlowD) (node : Int) (n : Nat) : List Int := ((List.range n).filter fun i => (FJ fl i).dst == node).map fun (i : Nat) => (i : Int)
theorem to_succ (fl : List FlowD) (node : Int) (n : Nat) : toN fl node (n + 1) = toN fl node n ++ (if (FJ fl n).dst = node then [(n : Int)] else []) := by
  unfold toN
  rw [List.range_succ, List.filter_append, List.map_append]
  congr 1
  by_cases h : (FJ fl n).dst = node
  · simp [h]
  · simp [h]
theorem to_le (fl : List FlowD) (node : Int) (n : Nat) : (toN fl node n).length ≤ n := by
  unfold toN
  have := List.length_filter_le (fun i => (FJ fl i).dst == node) (List.range n)
  simpa using this
def toL (g : GraphD) (node : Int) : List Int := if askC g node = 0 then toN g.flows node g.flows.length else []
theorem toL_le (g : GraphD) (node : Int) : (toL g node).length ≤ g.flows.length := by
  unfold toL
  split
  · exact to_le _ _ _
  · exact Nat.zero_le _
set_option maxRecDepth 100000 in
set_option maxHeartbeats 4000000 in
theorem specFlowsTo1 (B b : Nat) (g : GraphD) (vn vf : Value) (node : Int) (w : World) (hl : g.flows.length ≤ 1048576) (hb : b < w.heap.size) (hb1 : w.cell? ⟨b, 1, none⟩ = some vf) (ha : At w B vn vf g) :
    Calls Tryd.prog 37 #[.pointer (some ⟨b, 0, none⟩), .int .i64 node] w fun e w' => (∃ u, e = .returned u ∧ w'.ownsRow w.heap.size 2 1 u (toN g.flows node g.flows.length).length (vals (toN g.flows node g.flows.length))) ∧ Below w.heap.size w w' := by
  obtain ⟨af, cf, rfl⟩ := ha.flows.slice
  have HA := hid ha
  clear ha
  obtain ⟨j0, hj, hy0, hy1, hy2⟩ := inf_parts infoI64
  go_enter Tryd.func37, Tryd.ntmps37
  go_wp2_with fail
  go_loopw [5, 6] (fun o i wr => ∃ n : Nat, i = .int .i64 n ∧ n ≤ g.flows.length ∧ (∃ a5 c5, o = .slice a5 (toN g.flows node n).length c5) ∧ Hid (wr.ownsRow w.heap.size 2 1 o (toN g.flows node n).length (vals (toN g.flows node n))) ∧ Below w.heap.size w wr) (fun _ i _ => g.flows.length - (intOf i).toNat)
  case atStart => exact ⟨0, rfl, Nat.zero_le _, ⟨_, _, rfl⟩, World.ownsRow_made w #[] 0 (Nat.le_refl _) (by unfold maxLen; omega) rfl, (Below.refl _ w).alloc (Nat.le_refl _) _⟩
  case round =>
    obtain ⟨n, rfl, hn, ⟨a5, c5, rfl⟩, HO, hbel⟩ := hrel
    have hz := hbel.size
    have k1 := old_cell hbel hb hb1
    have hbw := Nat.lt_of_lt_of_le hb hz
    by_cases hlt : n < g.flows.length
    · obtain ⟨gf, o, vx, rfl, hg, c0, c1, c2, _⟩ := (HA.out.flows.below hbel).at hlt
      have q1 : (n : Int) < (g.flows.length : Int) := by omega
      have hle := to_le g.flows node n
      have HN := hid (to_succ g.flows node n)
      rw [FJ_eq hlt] at HN
      clear c2
      by_cases he : g.flows[n].dst = node
      · have HK : Hid (toN g.flows node (n + 1) = toN g.flows node n ++ [(n : Int)]) := hid (by rw [HN.out, if_pos he])
        have b1 : (g.flows[n].dst == node) = true := beq_iff_eq.2 he
        clear he HN
        generalize toN g.flows node n = ks at *
        have hown := HO.out
        go_wp2_with (at_builtin; go_must (refine wpList_append_own _ rfl _ _ 35 rfl w.heap.size 2 j0 (.int .i64 0) 1 8 Tryd.underlying35 hj hy0 hy1 hy2 rfl (by decide) _ _ _ rfl (hown.alloc _) ⟨wr.heap.size, 0, none⟩ 1 1 [.int .i64 (n : Int)] rfl rfl (cell_one_new _ _ _) (by simp [Value.oneCell']) (by unfold maxLen; omega) (by omega) (by simp; omega) ?_); intro v' w2 hown' hgrow _; obtain ⟨g9, c9, rfl⟩ := ownsRow_succ hown')
        have hB2 : Below w.heap.size w w2 := (hbel.alloc hz _).grown hgrow (by simp; omega) (fun b e => (row_lt hown e).1)
        refine ⟨⟨n + 1, by simp, by omega, ⟨some ⟨g9, 0, none⟩, c9, by rw [HK.out, List.length_append]; rfl⟩, hid ?_, hB2⟩, by simp [intOf]; omega⟩
        rw [HK.out]
        simpa [vals] using hown'
      · have HK : Hid (toN g.flows node (n + 1) = toN g.flows node n) := hid (by rw [HN.out, if_neg he, List.append_nil])
        have b1 : (g.flows[n].dst == node) = false := beq_eq_false_iff_ne.2 he
        clear he HN
        go_wp2
        refine ⟨⟨n + 1, by simp, by omega, ⟨a5, c5, by rw [HK.out]⟩, hid ?_, hbel⟩, by simp [intOf]; omega⟩
        rw [HK.out]
        exact HO.out
    · have hne : n = g.flows.length := by omega
      have HE := hid hne
      have q1 : ¬ (n : Int) < (g.flows.length : Int) := by omega
      clear hne
      go_wp2
      go_ret
      refine ⟨⟨_, rfl, ?_⟩, hbel⟩
      rw [← HE.out]
      exact HO.out
set_option maxRecDepth 100000 in
set_option maxHeartbeats 4000000 in
theorem specFlowsTo (B : Nat) (g : GraphD) (vn vf : Value) (node : Int) (w : World) (hsm : Small 1048576 g) (ha : At w B vn vf g) :
    Calls Tryd.prog 17 #[.agg #[vn, vf], .int .i64 node] w fun e w' => (∃ u, e = .returned (.agg #[.int .i64 (askC g node), u]) ∧ w'.ownsRow (w.heap.size + 1) 2 1 u (toL g node).length (vals (toL g node))) ∧ Below w.heap.size w w' := by
  have hx : Below w.heap.size w ((w.alloc (.cells #[vn, vf] 31)).alloc (.cells #[.int .i64 0, .slice none 0 0] 37)) := ((Below.refl _ w).alloc (Nat.le_refl _) _).alloc (by simp) _
  have hfl := hsm.flows.1
  have h0 : ((w.alloc (.cells #[vn, vf] 31)).alloc (.cells #[.int .i64 0, .slice none 0 0] 37)).cell? ⟨w.heap.size, 0, none⟩ = some vn := by rw [World.cell?_alloc_lt _ _ _ (by simp)]; simp
  have h1 : ((w.alloc (.cells #[vn, vf] 31)).alloc (.cells #[.int .i64 0, .slice none 0 0] 37)).cell? ⟨w.heap.size, 1, none⟩ = some vf := by rw [World.cell?_alloc_lt _ _ _ (by simp)]; simp
  have hz : ((w.alloc (.cells #[vn, vf] 31)).alloc (.cells #[.int .i64 0, .slice none 0 0] 37)).heap.size = w.heap.size + 1 + 1 := by simp
  have HAX := hid (ha.below hx)
  have HF := hid (specAsked B w.heap.size g vn vf node _ hsm (by omega) h0 h1 HAX.out)
  have hrb : ((w.alloc (.cells #[vn, vf] 31)).alloc (.cells #[.int .i64 0, .slice none 0 0] 37)).heap[w.heap.size + 1]? = some (.cells #[.int .i64 0, .slice none 0 0] 37) := by
    have := heap_alloc_new (w.alloc (.cells #[vn, vf] 31)) (.cells #[.int .i64 0, .slice none 0 0] 37)
    rw [World.size_alloc] at this
    exact this
  have HX := hid hx
  obtain ⟨an, cn, rfl⟩ := ha.nodes.slice
  obtain ⟨af, cf, rfl⟩ := ha.flows.slice
  have HL0 : Hid (askC g node ≠ 0 → toL g node = []) := hid (fun h => by unfold toL; rw [if_neg h])
  have HL1 : Hid (askC g node = 0 → toL g node = toN g.flows node g.flows.length) := hid (fun h => by unfold toL; rw [if_pos h])
  clear ha hsm hx
  go_enter Tryd.func17, Tryd.ntmps17
  go_wp2_with fail
  generalize (w.alloc (.cells #[.slice an g.nodes.length cn, .slice af g.flows.length cf] 31)).alloc (.cells #[.int .i64 0, .slice none 0 0] 37) = w0 at *
  refine HF.out.mono ?_
  rintro e w1 ⟨rfl, hb1⟩
  have hz1 := hb1.size
  have l1 : w.heap.size + 1 < w1.heap.size := by omega
  have l0 : w.heap.size < w1.heap.size := by omega
  have hr1 := (hb1.block (w.heap.size + 1) (by omega)).trans hrb
  have r0 : w1.cell? ⟨w.heap.size + 1, 0, none⟩ = some (.int .i64 0) := by simp [World.cell?, hr1]
  have r1 : w1.cell? ⟨w.heap.size + 1, 1, none⟩ = some (.slice none 0 0) := by simp [World.cell?, hr1]
  have f0 : w1.frozen? ⟨w.heap.size + 1, 0, none⟩ = false := by simp [World.frozen?, hr1]
  have f1 : w1.frozen? ⟨w.heap.size + 1, 1, none⟩ = false := by simp [World.frozen?, hr1]
  have k1 := old_cell hb1 (by omega) h1
  have HB1 := hid (HX.out.trans (hb1.mono (by omega)))
  have HA1 := hid (HAX.out.below hb1)
  have HRB := hid hr1
  clear hb1 hr1 hrb h0 h1 HF HAX hz
  by_cases hf : askC g node = 0
  · have HL := hid (HL1.out hf)
    have HZ := hid hf
    rw [hf]
    have HSF := hid (specFlowsTo1 B w.heap.size g _ _ node w1 (by omega) l0 k1 HA1.out)
    clear hf r0 r1 f0 f1 HL0 HL1
    go_wp2_with fail
    refine HSF.out.mono ?_
    rintro e w2 ⟨⟨u, rfl, ho⟩, hb2⟩
    obtain ⟨au, cu, rfl⟩ := Ints.owns_slice ho
    have hr2 := (hb2.block (w.heap.size + 1) l1).trans HRB.out
    have r0 : w2.cell? ⟨w.heap.size + 1, 0, none⟩ = some (.int .i64 0) := by simp [World.cell?, hr2]
    have r1 : w2.cell? ⟨w.heap.size + 1, 1, none⟩ = some (.slice none 0 0) := by simp [World.cell?, hr2]
    have f0 : w2.frozen? ⟨w.heap.size + 1, 0, none⟩ = false := by simp [World.frozen?, hr2]
    have f1 : w2.frozen? ⟨w.heap.size + 1, 1, none⟩ = false := by simp [World.frozen?, hr2]
    have l2 : w.heap.size + 1 < w2.heap.size := Nat.lt_of_lt_of_le l1 hb2.size
    have HB2 := hid (HB1.out.trans (hb2.mono HB1.out.size))
    have HO := hid ho
    have hxl := to_le g.flows node g.flows.length
    generalize toN g.flows node g.flows.length = xs at *
    clear hb2 hr2 ho HSF
    go_wp2
    refine bodyPost_ret (v := .agg #[.int .i64 0, .slice au xs.length cu]) (by simp [results, Tryd.results17, go_sem, r0, r1]) rfl ⟨⟨_, by rw [HZ.out], ?_⟩, setB (setB HB2.out (Nat.le_succ _) _) (Nat.le_succ _) _⟩
    rw [HL.out]
    refine ⟨HO.out.1, ?_⟩
    rcases HO.out.2 with hn | ⟨g', cap, cur, hv, hbg, hg, rest⟩
    · exact .inl hn
    · exact .inr ⟨g', cap, cur, hv, by omega, by rw [Below.heap_setCell _ _ _ _ (by dsimp only; omega), Below.heap_setCell _ _ _ _ (by dsimp only; omega)]; exact hg, rest⟩
  · have HL := hid (HL0.out hf)
    have b1 : (askC g node != 0) = true := bne_iff_ne.2 hf
    generalize hac : askC g node = ac at *
    have HAC := hid hac
    clear hf hac HL0 HL1
    go_wp2
    refine bodyPost_ret (v := .agg #[.int .i64 ac, .slice none 0 0]) (by simp [results, Tryd.results17, go_sem, r0, r1]) rfl ⟨⟨_, by rw [HAC.out], ?_⟩, setB (setB HB1.out (Nat.le_succ _) _) (Nat.le_succ _) _⟩
    rw [HL.out]
    exact World.ownsRow_nil _ _ _ 1
end Gr
end Go.Proofs.YtkmcfdcdgcdpgaaDoor
