/- The program's FlowsFrom and FlowsTo. -/
import Derived.Test.YtkmcfdcdgcdpgaaDoorGiC
import Derived.Test.YtkmcfdcdgcdpgaaDoorGsC
namespace Go.Proofs.YtkmcfdcdgcdpgaaDoor
open Go.RowKit
set_option linter.unusedVariables false
namespace Gr
open Ex (hid inR)
open Nd (NodeD)
open Rc
open Gn (GNodeD)
open Fl (FlowD)
open Ints (vals)
theorem owns_weak {w : World} {B B' : Nat} {e : TypeId} {size n : Nat} {v : Value} {xs : List Value} (h : w.ownsRow B e size v n xs) (hb : B' ≤ B) : w.ownsRow B' e size v n xs := by
  refine ⟨h.1, ?_⟩
  rcases h.2 with hn | ⟨g, cap, cur, hv, hbg, rest⟩
  · exact .inl hn
  · exact .inr ⟨g, cap, cur, hv, by omega, rest⟩
theorem owns_set {w : World} {B : Nat} {e : TypeId} {size n : Nat} {v : Value} {xs : List Value} (h : w.ownsRow B e size v n xs) {b o : Nat} (hb : b < B) (x : Value) : (w.setCell ⟨b, o, none⟩ x).ownsRow B e size v n xs := by
  refine ⟨h.1, ?_⟩
  rcases h.2 with hn | ⟨g, cap, cur, hv, hbg, hg, rest⟩
  · exact .inl hn
  · exact .inr ⟨g, cap, cur, hv, hbg, by rw [Below.heap_setCell _ _ _ _ (by dsimp only; omega)]; exact hg, rest⟩
set_option maxRecDepth 100000 in
set_option maxHeartbeats 1000000 in
theorem fromOf (f : FlowD) (a : Option Addr) (n cap : Nat) (w : World) :
    Calls Tryd.prog 31 #[.agg #[.int .i64 f.src, .int .i64 f.dst, .slice a n cap]] w fun e w' => e = .returned (.int .i64 f.src) ∧ Below w.heap.size w w' := by
  go_enter Tryd.func31, Tryd.ntmps31
  go_wp2
  go_ret
  exact ⟨rfl, (Below.refl _ w).alloc (Nat.le_refl _) _⟩
set_option maxRecDepth 100000 in
set_option maxHeartbeats 8000000 in
theorem at_fromOf (B : Nat) (g : GraphD) (vn vf : Value) (node : Int) (w : World) (hsm : Small 1048576 g) (ha : At w B vn vf g) (hr : NRul w) :
    Calls Tryd.prog 30 #[.agg #[vn, vf], .int .i64 node, .func (.func 31) #[] #[]] w fun e w' => (∃ u, e = .returned (.agg #[.int .i64 (askC g node), u]) ∧ w'.ownsRow (w.heap.size + 1 + 1) 2 1 u (fromL g node).length (vals (fromL g node))) ∧ Below w.heap.size w w' := by
  have hx : Below w.heap.size w ((w.alloc (.cells #[vn, vf] 31)).alloc (.cells #[.int .i64 0, .slice none 0 0] 37)) := ((Below.refl _ w).alloc (Nat.le_refl _) _).alloc (by simp) _
  have hfl := hsm.flows.1
  have hnl := hsm.nodes.1
  have h0 : ((w.alloc (.cells #[vn, vf] 31)).alloc (.cells #[.int .i64 0, .slice none 0 0] 37)).cell? ⟨w.heap.size, 0, none⟩ = some vn := by rw [World.cell?_alloc_lt _ _ _ (by simp)]; simp
  have h1 : ((w.alloc (.cells #[vn, vf] 31)).alloc (.cells #[.int .i64 0, .slice none 0 0] 37)).cell? ⟨w.heap.size, 1, none⟩ = some vf := by rw [World.cell?_alloc_lt _ _ _ (by simp)]; simp
  have hz : ((w.alloc (.cells #[vn, vf] 31)).alloc (.cells #[.int .i64 0, .slice none 0 0] 37)).heap.size = w.heap.size + 1 + 1 := by simp
  have HAX := hid (ha.below hx)
  have HF := hid (implFault B g vn vf _ hsm HAX.out (hr.below hx hr.lt))
  have hrb : ((w.alloc (.cells #[vn, vf] 31)).alloc (.cells #[.int .i64 0, .slice none 0 0] 37)).heap[w.heap.size + 1]? = some (.cells #[.int .i64 0, .slice none 0 0] 37) := by
    have := heap_alloc_new (w.alloc (.cells #[vn, vf] 31)) (.cells #[.int .i64 0, .slice none 0 0] 37)
    rw [World.size_alloc] at this
    exact this
  have HX := hid hx
  obtain ⟨an, cn, rfl⟩ := ha.nodes.slice
  obtain ⟨af, cf, rfl⟩ := ha.flows.slice
  have HL0 : Hid (askC g node ≠ 0 → fromL g node = []) := hid (fun h => by unfold fromL; rw [if_neg h])
  have HL1 : Hid (askC g node = 0 → fromL g node = fromN g.flows node g.flows.length) := hid (fun h => by unfold fromL; rw [if_pos h])
  have HH := hid (fun k w' => hasNode g.nodes.length an cn (.slice af g.flows.length cf) k w' (by omega))
  clear ha hsm hx hr
  go_enter Tryd.func30, Tryd.ntmps30
  go_wp2_with fail
  generalize (w.alloc (.cells #[.slice an g.nodes.length cn, .slice af g.flows.length cf] 31)).alloc (.cells #[.int .i64 0, .slice none 0 0] 37) = w0 at *
  refine HF.out.mono ?_
  rintro e w1 ⟨rfl, hb1⟩
  have hz1 := hb1.size
  have l1 : w.heap.size + 1 < w1.heap.size := by omega
  have l0 : w.heap.size < w1.heap.size := by omega
  have hr1 := (hb1.block (w.heap.size + 1) (by omega)).trans hrb
  have k0 := old_cell hb1 (by omega) h0
  have k1 := old_cell hb1 (by omega) h1
  have HB1 := hid (HX.out.trans (hb1.mono (by omega)))
  have HA1 := hid (HAX.out.below hb1)
  have HRB := hid hr1
  have HZ1 := hid hz1
  have HZ := hid hz
  clear hb1 hr1 hrb h0 h1 HF HAX hz hz1
  by_cases hf : gFault g = 0
  · rw [hf]
    go_wp2_with fail
    refine (HH.out node w1).mono ?_
    rintro e w2 ⟨rfl, hb2⟩
    have hr2 := (hb2.block (w.heap.size + 1) l1).trans HRB.out
    have m0 := Nat.lt_of_lt_of_le l0 hb2.size
    have m1 := Nat.lt_of_lt_of_le l1 hb2.size
    have j1 := old_cell hb2 l0 k1
    have HB2 := hid (HB1.out.trans (hb2.mono HB1.out.size))
    have HA2 := hid (HA1.out.below hb2)
    have HR2 := hid hr2
    have HF0 := hid hf
    clear hb2 k0 k1 l0 l1 HB1 HA1 HRB HZ1 hf
    cases hi : inR node 0 ((g.nodes.length : Int) - 1)
    · have HAC := hid (ask_range HF0.out hi)
      have HL := hid (HL0.out (by rw [HAC.out]; decide))
      have r0 : w2.cell? ⟨w.heap.size + 1, 0, none⟩ = some (.int .i64 0) := by simp [World.cell?, hr2]
      have r1 : w2.cell? ⟨w.heap.size + 1, 1, none⟩ = some (.slice none 0 0) := by simp [World.cell?, hr2]
      have f0 : w2.frozen? ⟨w.heap.size + 1, 0, none⟩ = false := by simp [World.frozen?, hr2]
      have f1 : w2.frozen? ⟨w.heap.size + 1, 1, none⟩ = false := by simp [World.frozen?, hr2]
      clear hi hr2 HL0 HL1
      go_wp2
      refine bodyPost_ret (v := .agg #[.int .i64 3, .slice none 0 0]) (by simp [results, Tryd.results30, go_sem, r0, r1]) rfl ⟨⟨_, by rw [HAC.out], ?_⟩, setB (setB HB2.out (Nat.le_succ _) _) (Nat.le_succ _) _⟩
      rw [HL.out]
      exact World.ownsRow_nil _ _ _ 1
    have HAC := hid (ask_ok HF0.out hi)
    have HL := hid (HL1.out HAC.out)
    clear hi hr2 HL0 HL1
    obtain ⟨j0, hj, hy0, hy1, hy2⟩ := inf_parts infoI64
    go_wp2_with fail
    obtain ⟨wq, hwq⟩ : ∃ wq, wq = w2 := ⟨_, rfl⟩
    subst hwq
    go_loopw [8, 9, 10, 25] (fun o _ _ i wr => ∃ n : Nat, i = .int .i64 n ∧ n ≤ g.flows.length ∧ (∃ a5 c5, o = .slice a5 (fromN g.flows node n).length c5) ∧ Hid (wr.ownsRow wq.heap.size 2 1 o (fromN g.flows node n).length (vals (fromN g.flows node n))) ∧ Hid (Below wq.heap.size wq wr)) (fun _ _ _ i _ => g.flows.length - (intOf i).toNat)
    case atStart => exact ⟨0, rfl, Nat.zero_le _, ⟨_, _, rfl⟩, hid (World.ownsRow_nil _ _ _ 1), hid (Below.refl _ _)⟩
    case round =>
      obtain ⟨n, rfl, hn, ⟨a5, c5, rfl⟩, HO, HBR⟩ := hrel
      have hz := HBR.out.size
      have k1 := old_cell HBR.out m0 j1
      have hbw := Nat.lt_of_lt_of_le m0 hz
      by_cases hlt : n < g.flows.length
      · obtain ⟨gf, o, vx, rfl, hg, c0, c1, c2, hvx⟩ := (HA2.out.flows.below HBR.out).at hlt
        have q1 : (n : Int) < (g.flows.length : Int) := by omega
        have hle := from_le g.flows node n
        have HN := hid (from_succ g.flows node n)
        rw [FJ_eq hlt] at HN
        obtain ⟨ax, cx, rfl⟩ := hvx.slice
        clear hvx
        have HC : Hid (∀ a m cap w', Calls Tryd.prog 31 #[.agg #[.int .i64 g.flows[n].src, .int .i64 g.flows[n].dst, .slice a m cap]] w' fun e w'' => e = .returned (.int .i64 g.flows[n].src) ∧ Below w'.heap.size w' w'') := hid (fun a m cap w' => fromOf g.flows[n] a m cap w')
        go_wp2_with fail
        refine (HC.out _ _ _ _).mono ?_
        rintro e w3 ⟨rfl, hb3⟩
        have hx3 : Below wr.heap.size wr w3 := ((Below.refl _ wr).alloc (Nat.le_refl _) _).trans (hb3.mono (by simp))
        have HB3 := hid (HBR.out.trans (hx3.mono HBR.out.size))
        have HO3 := hid (Ints.owns_below HO.out hx3)
        have hz3 := HB3.out.size
        clear hb3 hx3 HC c0 c1 c2
        by_cases he : g.flows[n].src = node
        · have HK : Hid (fromN g.flows node (n + 1) = fromN g.flows node n ++ [(n : Int)]) := hid (by rw [HN.out, if_pos he])
          have b1 : (g.flows[n].src == node) = true := beq_iff_eq.2 he
          clear he HN
          generalize fromN g.flows node n = ks at *
          have hown := HO3.out
          go_wp2_with (at_builtin; go_must (refine wpList_append_own _ rfl _ _ 35 rfl wq.heap.size 2 j0 (.int .i64 0) 1 8 Tryd.underlying35 hj hy0 hy1 hy2 rfl (by decide) _ _ _ rfl (hown.alloc _) ⟨w3.heap.size, 0, none⟩ 1 1 [.int .i64 (n : Int)] rfl rfl (cell_one_new _ _ _) (by simp [Value.oneCell']) (by unfold maxLen; omega) (by omega) (by simp; omega) ?_); intro v' w4 hown' hgrow _; obtain ⟨g9, c9, rfl⟩ := ownsRow_succ hown')
          have hB4 : Below wq.heap.size wq w4 := (HB3.out.alloc hz3 _).grown hgrow (by simp; omega) (fun b e => (row_lt hown e).1)
          refine ⟨⟨n + 1, by simp, by omega, ⟨some ⟨g9, 0, none⟩, c9, by rw [HK.out, List.length_append]; rfl⟩, hid ?_, hid hB4⟩, by simp [intOf]; omega⟩
          rw [HK.out]
          simpa [vals] using hown'
        · have HK : Hid (fromN g.flows node (n + 1) = fromN g.flows node n) := hid (by rw [HN.out, if_neg he, List.append_nil])
          have b1 : (g.flows[n].src == node) = false := beq_eq_false_iff_ne.2 he
          clear he HN
          go_wp2
          refine ⟨⟨n + 1, by simp, by omega, ⟨a5, c5, by rw [HK.out]⟩, hid ?_, HB3⟩, by simp [intOf]; omega⟩
          rw [HK.out]
          exact HO3.out
      · have HE := hid (show n = g.flows.length by omega)
        have q1 : ¬ (n : Int) < (g.flows.length : Int) := by omega
        have hr2 := (HBR.out.block (w.heap.size + 1) m1).trans HR2.out
        have m2 := Nat.lt_of_lt_of_le m1 HBR.out.size
        have r0 : wr.cell? ⟨w.heap.size + 1, 0, none⟩ = some (.int .i64 0) := by simp [World.cell?, hr2]
        have r1 : wr.cell? ⟨w.heap.size + 1, 1, none⟩ = some (.slice none 0 0) := by simp [World.cell?, hr2]
        have f0 : wr.frozen? ⟨w.heap.size + 1, 0, none⟩ = false := by simp [World.frozen?, hr2]
        have f1 : wr.frozen? ⟨w.heap.size + 1, 1, none⟩ = false := by simp [World.frozen?, hr2]
        have HB3 := hid (HB2.out.trans (HBR.out.mono HB2.out.size))
        have hxl := from_le g.flows node n
        have HEQ : Hid (fromL g node = fromN g.flows node n) := hid (by rw [HL.out, HE.out])
        generalize fromN g.flows node n = xs at *
        have HM1 := hid m1
        clear hr2 m1
        go_wp2
        refine bodyPost_ret (v := .agg #[.int .i64 0, .slice a5 xs.length c5]) (by simp [results, Tryd.results30, go_sem, r0, r1]) rfl ⟨⟨_, by rw [HAC.out], ?_⟩, setB (setB HB3.out (Nat.le_succ _) _) (Nat.le_succ _) _⟩
        rw [HEQ.out]
        have hm := HM1.out
        exact owns_set (owns_set (owns_weak HO.out (by omega)) (by omega) _) (by omega) _
  · have HAC := hid (ask_fault (node := node) hf)
    have HL := hid (HL0.out (by rw [HAC.out]; exact hf))
    have b1 : (gFault g != 0) = true := bne_iff_ne.2 hf
    have hr1 := HRB.out
    have r0 : w1.cell? ⟨w.heap.size + 1, 0, none⟩ = some (.int .i64 0) := by simp [World.cell?, hr1]
    have r1 : w1.cell? ⟨w.heap.size + 1, 1, none⟩ = some (.slice none 0 0) := by simp [World.cell?, hr1]
    have f0 : w1.frozen? ⟨w.heap.size + 1, 0, none⟩ = false := by simp [World.frozen?, hr1]
    have f1 : w1.frozen? ⟨w.heap.size + 1, 1, none⟩ = false := by simp [World.frozen?, hr1]
    generalize gFault g = ac at *
    clear hf hr1 HL0 HL1
    go_wp2
    refine bodyPost_ret (v := .agg #[.int .i64 ac, .slice none 0 0]) (by simp [results, Tryd.results30, go_sem, r0, r1]) rfl ⟨⟨_, by rw [HAC.out], ?_⟩, setB (setB HB1.out (Nat.le_succ _) _) (Nat.le_succ _) _⟩
    rw [HL.out]
    exact World.ownsRow_nil _ _ _ 1
set_option maxRecDepth 100000 in
set_option maxHeartbeats 4000000 in
theorem implFlowsFrom (B : Nat) (g : GraphD) (vn vf : Value) (node : Int) (w : World) (hsm : Small 1048576 g) (ha : At w B vn vf g) (hr : NRul w) :
    Calls Tryd.prog 12 #[.agg #[vn, vf], .int .i64 node] w fun e w' => (∃ u, e = .returned (.agg #[.int .i64 (askC g node), u]) ∧ w'.ownsRow (w.heap.size + 1) 2 1 u (fromL g node).length (vals (fromL g node))) ∧ Below w.heap.size w w' := by
  have hx : Below w.heap.size w ((w.alloc (.cells #[vn, vf] 31)).alloc (.cells #[.int .i64 0, .slice none 0 0] 37)) := ((Below.refl _ w).alloc (Nat.le_refl _) _).alloc (by simp) _
  have hz : ((w.alloc (.cells #[vn, vf] 31)).alloc (.cells #[.int .i64 0, .slice none 0 0] 37)).heap.size = w.heap.size + 1 + 1 := by simp
  have hrb : ((w.alloc (.cells #[vn, vf] 31)).alloc (.cells #[.int .i64 0, .slice none 0 0] 37)).heap[w.heap.size + 1]? = some (.cells #[.int .i64 0, .slice none 0 0] 37) := by
    have := heap_alloc_new (w.alloc (.cells #[vn, vf] 31)) (.cells #[.int .i64 0, .slice none 0 0] 37)
    rw [World.size_alloc] at this
    exact this
  have HF := hid (at_fromOf B g vn vf node _ hsm (ha.below hx) (hr.below hx hr.lt))
  have HX := hid hx
  have HZ := hid hz
  obtain ⟨an, cn, rfl⟩ := ha.nodes.slice
  obtain ⟨af, cf, rfl⟩ := ha.flows.slice
  clear ha hsm hx hr hz
  go_enter Tryd.func12, Tryd.ntmps12
  go_wp2_with fail
  generalize (w.alloc (.cells #[.slice an g.nodes.length cn, .slice af g.flows.length cf] 31)).alloc (.cells #[.int .i64 0, .slice none 0 0] 37) = w0 at *
  refine HF.out.mono ?_
  rintro e w1 ⟨⟨u, rfl, ho⟩, hb1⟩
  have hz1 := hb1.size
  have hzz := HZ.out
  have l1 : w.heap.size + 1 < w1.heap.size := by omega
  have hr1 := (hb1.block (w.heap.size + 1) (by omega)).trans hrb
  obtain ⟨au, cu, rfl⟩ := Ints.owns_slice ho
  have HO := hid (owns_weak (B' := w.heap.size + 1 + 1) ho (by omega))
  have HB1 := hid (HX.out.trans (hb1.mono (by omega)))
  have r0 : w1.cell? ⟨w.heap.size + 1, 0, none⟩ = some (.int .i64 0) := by simp [World.cell?, hr1]
  have r1 : w1.cell? ⟨w.heap.size + 1, 1, none⟩ = some (.slice none 0 0) := by simp [World.cell?, hr1]
  have f0 : w1.frozen? ⟨w.heap.size + 1, 0, none⟩ = false := by simp [World.frozen?, hr1]
  have f1 : w1.frozen? ⟨w.heap.size + 1, 1, none⟩ = false := by simp [World.frozen?, hr1]
  generalize hxs : fromL g node = xs at *
  generalize hac : askC g node = ac at *
  have HXS := hid hxs
  have HAC := hid hac
  clear hxs hac ho hb1 hr1 hrb HF hz1 hzz
  go_wp2
  refine bodyPost_ret (v := .agg #[.int .i64 ac, .slice au xs.length cu]) (by simp [results, Tryd.results12, go_sem, r0, r1]) rfl ⟨⟨_, by rw [HAC.out], ?_⟩, setB (setB HB1.out (Nat.le_succ _) _) (Nat.le_succ _) _⟩
  rw [HXS.out]
  exact owns_weak (owns_set (owns_set HO.out (by omega) _) (by omega) _) (by omega)
set_option maxRecDepth 100000 in
set_option maxHeartbeats 1000000 in
theorem toOf (f : FlowD) (a : Option Addr) (n cap : Nat) (w : World) :
    Calls Tryd.prog 38 #[.agg #[.int .i64 f.src, .int .i64 f.dst, .slice a n cap]] w fun e w' => e = .returned (.int .i64 f.dst) ∧ Below w.heap.size w w' := by
  go_enter Tryd.func38, Tryd.ntmps38
  go_wp2
  go_ret
  exact ⟨rfl, (Below.refl _ w).alloc (Nat.le_refl _) _⟩
set_option maxRecDepth 100000 in
set_option maxHeartbeats 8000000 in
theorem at_toOf (B : Nat) (g : GraphD) (vn vf : Value) (node : Int) (w : World) (hsm : Small 1048576 g) (ha : At w B vn vf g) (hr : NRul w) :
    Calls Tryd.prog 30 #[.agg #[vn, vf], .int .i64 node, .func (.func 38) #[] #[]] w fun e w' => (∃ u, e = .returned (.agg #[.int .i64 (askC g node), u]) ∧ w'.ownsRow (w.heap.size + 1 + 1) 2 1 u (toL g node).length (vals (toL g node))) ∧ Below w.heap.size w w' := by
  have hx : Below w.heap.size w ((w.alloc (.cells #[vn, vf] 31)).alloc (.cells #[.int .i64 0, .slice none 0 0] 37)) := ((Below.refl _ w).alloc (Nat.le_refl _) _).alloc (by simp) _
  have hfl := hsm.flows.1
  have hnl := hsm.nodes.1
  have h0 : ((w.alloc (.cells #[vn, vf] 31)).alloc (.cells #[.int .i64 0, .slice none 0 0] 37)).cell? ⟨w.heap.size, 0, none⟩ = some vn := by rw [World.cell?_alloc_lt _ _ _ (by simp)]; simp
  have h1 : ((w.alloc (.cells #[vn, vf] 31)).alloc (.cells #[.int .i64 0, .slice none 0 0] 37)).cell? ⟨w.heap.size, 1, none⟩ = some vf := by rw [World.cell?_alloc_lt _ _ _ (by simp)]; simp
  have hz : ((w.alloc (.cells #[vn, vf] 31)).alloc (.cells #[.int .i64 0, .slice none 0 0] 37)).heap.size = w.heap.size + 1 + 1 := by simp
  have HAX := hid (ha.below hx)
  have HF := hid (implFault B g vn vf _ hsm HAX.out (hr.below hx hr.lt))
  have hrb : ((w.alloc (.cells #[vn, vf] 31)).alloc (.cells #[.int .i64 0, .slice none 0 0] 37)).heap[w.heap.size + 1]? = some (.cells #[.int .i64 0, .slice none 0 0] 37) := by
    have := heap_alloc_new (w.alloc (.cells #[vn, vf] 31)) (.cells #[.int .i64 0, .slice none 0 0] 37)
    rw [World.size_alloc] at this
    exact this
  have HX := hid hx
  obtain ⟨an, cn, rfl⟩ := ha.nodes.slice
  obtain ⟨af, cf, rfl⟩ := ha.flows.slice
  have HL0 : Hid (askC g node ≠ 0 → toL g node = []) := hid (fun h => by unfold toL; rw [if_neg h])
  have HL1 : Hid (askC g node = 0 → toL g node = toN g.flows node g.flows.length) := hid (fun h => by unfold toL; rw [if_pos h])
  have HH := hid (fun k w' => hasNode g.nodes.length an cn (.slice af g.flows.length cf) k w' (by omega))
  clear ha hsm hx hr
  go_enter Tryd.func30, Tryd.ntmps30
  go_wp2_with fail
  generalize (w.alloc (.cells #[.slice an g.nodes.length cn, .slice af g.flows.length cf] 31)).alloc (.cells #[.int .i64 0, .slice none 0 0] 37) = w0 at *
  refine HF.out.mono ?_
  rintro e w1 ⟨rfl, hb1⟩
  have hz1 := hb1.size
  have l1 : w.heap.size + 1 < w1.heap.size := by omega
  have l0 : w.heap.size < w1.heap.size := by omega
  have hr1 := (hb1.block (w.heap.size + 1) (by omega)).trans hrb
  have k0 := old_cell hb1 (by omega) h0
  have k1 := old_cell hb1 (by omega) h1
  have HB1 := hid (HX.out.trans (hb1.mono (by omega)))
  have HA1 := hid (HAX.out.below hb1)
  have HRB := hid hr1
  have HZ1 := hid hz1
  have HZ := hid hz
  clear hb1 hr1 hrb h0 h1 HF HAX hz hz1
  by_cases hf : gFault g = 0
  · rw [hf]
    go_wp2_with fail
    refine (HH.out node w1).mono ?_
    rintro e w2 ⟨rfl, hb2⟩
    have hr2 := (hb2.block (w.heap.size + 1) l1).trans HRB.out
    have m0 := Nat.lt_of_lt_of_le l0 hb2.size
    have m1 := Nat.lt_of_lt_of_le l1 hb2.size
    have j1 := old_cell hb2 l0 k1
    have HB2 := hid (HB1.out.trans (hb2.mono HB1.out.size))
    have HA2 := hid (HA1.out.below hb2)
    have HR2 := hid hr2
    have HF0 := hid hf
    clear hb2 k0 k1 l0 l1 HB1 HA1 HRB HZ1 hf
    cases hi : inR node 0 ((g.nodes.length : Int) - 1)
    · have HAC := hid (ask_range HF0.out hi)
      have HL := hid (HL0.out (by rw [HAC.out]; decide))
      have r0 : w2.cell? ⟨w.heap.size + 1, 0, none⟩ = some (.int .i64 0) := by simp [World.cell?, hr2]
      have r1 : w2.cell? ⟨w.heap.size + 1, 1, none⟩ = some (.slice none 0 0) := by simp [World.cell?, hr2]
      have f0 : w2.frozen? ⟨w.heap.size + 1, 0, none⟩ = false := by simp [World.frozen?, hr2]
      have f1 : w2.frozen? ⟨w.heap.size + 1, 1, none⟩ = false := by simp [World.frozen?, hr2]
      clear hi hr2 HL0 HL1
      go_wp2
      refine bodyPost_ret (v := .agg #[.int .i64 3, .slice none 0 0]) (by simp [results, Tryd.results30, go_sem, r0, r1]) rfl ⟨⟨_, by rw [HAC.out], ?_⟩, setB (setB HB2.out (Nat.le_succ _) _) (Nat.le_succ _) _⟩
      rw [HL.out]
      exact World.ownsRow_nil _ _ _ 1
    have HAC := hid (ask_ok HF0.out hi)
    have HL := hid (HL1.out HAC.out)
    clear hi hr2 HL0 HL1
    obtain ⟨j0, hj, hy0, hy1, hy2⟩ := inf_parts infoI64
    go_wp2_with fail
    obtain ⟨wq, hwq⟩ : ∃ wq, wq = w2 := ⟨_, rfl⟩
    subst hwq
    go_loopw [8, 9, 10, 25] (fun o _ _ i wr => ∃ n : Nat, i = .int .i64 n ∧ n ≤ g.flows.length ∧ (∃ a5 c5, o = .slice a5 (toN g.flows node n).length c5) ∧ Hid (wr.ownsRow wq.heap.size 2 1 o (toN g.flows node n).length (vals (toN g.flows node n))) ∧ Hid (Below wq.heap.size wq wr)) (fun _ _ _ i _ => g.flows.length - (intOf i).toNat)
    case atStart => exact ⟨0, rfl, Nat.zero_le _, ⟨_, _, rfl⟩, hid (World.ownsRow_nil _ _ _ 1), hid (Below.refl _ _)⟩
    case round =>
      obtain ⟨n, rfl, hn, ⟨a5, c5, rfl⟩, HO, HBR⟩ := hrel
      have hz := HBR.out.size
      have k1 := old_cell HBR.out m0 j1
      have hbw := Nat.lt_of_lt_of_le m0 hz
      by_cases hlt : n < g.flows.length
      · obtain ⟨gf, o, vx, rfl, hg, c0, c1, c2, hvx⟩ := (HA2.out.flows.below HBR.out).at hlt
        have q1 : (n : Int) < (g.flows.length : Int) := by omega
        have hle := to_le g.flows node n
        have HN := hid (to_succ g.flows node n)
        rw [FJ_eq hlt] at HN
        obtain ⟨ax, cx, rfl⟩ := hvx.slice
        clear hvx
        have HC : Hid (∀ a m cap w', Calls Tryd.prog 38 #[.agg #[.int .i64 g.flows[n].src, .int .i64 g.flows[n].dst, .slice a m cap]] w' fun e w'' => e = .returned (.int .i64 g.flows[n].dst) ∧ Below w'.heap.size w' w'') := hid (fun a m cap w' => toOf g.flows[n] a m cap w')
        go_wp2_with fail
        refine (HC.out _ _ _ _).mono ?_
        rintro e w3 ⟨rfl, hb3⟩
        have hx3 : Below wr.heap.size wr w3 := ((Below.refl _ wr).alloc (Nat.le_refl _) _).trans (hb3.mono (by simp))
        have HB3 := hid (HBR.out.trans (hx3.mono HBR.out.size))
        have HO3 := hid (Ints.owns_below HO.out hx3)
        have hz3 := HB3.out.size
        clear hb3 hx3 HC c0 c1 c2
        by_cases he : g.flows[n].dst = node
        · have HK : Hid (toN g.flows node (n + 1) = toN g.flows node n ++ [(n : Int)]) := hid (by rw [HN.out, if_pos he])
          have b1 : (g.flows[n].dst == node) = true := beq_iff_eq.2 he
          clear he HN
          generalize toN g.flows node n = ks at *
          have hown := HO3.out
          go_wp2_with (at_builtin; go_must (refine wpList_append_own _ rfl _ _ 35 rfl wq.heap.size 2 j0 (.int .i64 0) 1 8 Tryd.underlying35 hj hy0 hy1 hy2 rfl (by decide) _ _ _ rfl (hown.alloc _) ⟨w3.heap.size, 0, none⟩ 1 1 [.int .i64 (n : Int)] rfl rfl (cell_one_new _ _ _) (by simp [Value.oneCell']) (by unfold maxLen; omega) (by omega) (by simp; omega) ?_); intro v' w4 hown' hgrow _; obtain ⟨g9, c9, rfl⟩ := ownsRow_succ hown')
          have hB4 : Below wq.heap.size wq w4 := (HB3.out.alloc hz3 _).grown hgrow (by simp; omega) (fun b e => (row_lt hown e).1)
          refine ⟨⟨n + 1, by simp, by omega, ⟨some ⟨g9, 0, none⟩, c9, by rw [HK.out, List.length_append]; rfl⟩, hid ?_, hid hB4⟩, by simp [intOf]; omega⟩
          rw [HK.out]
          simpa [vals] using hown'
        · have HK : Hid (toN g.flows node (n + 1) = toN g.flows node n) := hid (by rw [HN.out, if_neg he, List.append_nil])
          have b1 : (g.flows[n].dst == node) = false := beq_eq_false_iff_ne.2 he
          clear he HN
          go_wp2
          refine ⟨⟨n + 1, by simp, by omega, ⟨a5, c5, by rw [HK.out]⟩, hid ?_, HB3⟩, by simp [intOf]; omega⟩
          rw [HK.out]
          exact HO3.out
      · have HE := hid (show n = g.flows.length by omega)
        have q1 : ¬ (n : Int) < (g.flows.length : Int) := by omega
        have hr2 := (HBR.out.block (w.heap.size + 1) m1).trans HR2.out
        have m2 := Nat.lt_of_lt_of_le m1 HBR.out.size
        have r0 : wr.cell? ⟨w.heap.size + 1, 0, none⟩ = some (.int .i64 0) := by simp [World.cell?, hr2]
        have r1 : wr.cell? ⟨w.heap.size + 1, 1, none⟩ = some (.slice none 0 0) := by simp [World.cell?, hr2]
        have f0 : wr.frozen? ⟨w.heap.size + 1, 0, none⟩ = false := by simp [World.frozen?, hr2]
        have f1 : wr.frozen? ⟨w.heap.size + 1, 1, none⟩ = false := by simp [World.frozen?, hr2]
        have HB3 := hid (HB2.out.trans (HBR.out.mono HB2.out.size))
        have hxl := to_le g.flows node n
        have HEQ : Hid (toL g node = toN g.flows node n) := hid (by rw [HL.out, HE.out])
        generalize toN g.flows node n = xs at *
        have HM1 := hid m1
        clear hr2 m1
        go_wp2
        refine bodyPost_ret (v := .agg #[.int .i64 0, .slice a5 xs.length c5]) (by simp [results, Tryd.results30, go_sem, r0, r1]) rfl ⟨⟨_, by rw [HAC.out], ?_⟩, setB (setB HB3.out (Nat.le_succ _) _) (Nat.le_succ _) _⟩
        rw [HEQ.out]
        have hm := HM1.out
        exact owns_set (owns_set (owns_weak HO.out (by omega)) (by omega) _) (by omega) _
  · have HAC := hid (ask_fault (node := node) hf)
    have HL := hid (HL0.out (by rw [HAC.out]; exact hf))
    have b1 : (gFault g != 0) = true := bne_iff_ne.2 hf
    have hr1 := HRB.out
    have r0 : w1.cell? ⟨w.heap.size + 1, 0, none⟩ = some (.int .i64 0) := by simp [World.cell?, hr1]
    have r1 : w1.cell? ⟨w.heap.size + 1, 1, none⟩ = some (.slice none 0 0) := by simp [World.cell?, hr1]
    have f0 : w1.frozen? ⟨w.heap.size + 1, 0, none⟩ = false := by simp [World.frozen?, hr1]
    have f1 : w1.frozen? ⟨w.heap.size + 1, 1, none⟩ = false := by simp [World.frozen?, hr1]
    generalize gFault g = ac at *
    clear hf hr1 HL0 HL1
    go_wp2
    refine bodyPost_ret (v := .agg #[.int .i64 ac, .slice none 0 0]) (by simp [results, Tryd.results30, go_sem, r0, r1]) rfl ⟨⟨_, by rw [HAC.out], ?_⟩, setB (setB HB1.out (Nat.le_succ _) _) (Nat.le_succ _) _⟩
    rw [HL.out]
    exact World.ownsRow_nil _ _ _ 1
set_option maxRecDepth 100000 in
set_option maxHeartbeats 4000000 in
theorem implFlowsTo (B : Nat) (g : GraphD) (vn vf : Value) (node : Int) (w : World) (hsm : Small 1048576 g) (ha : At w B vn vf g) (hr : NRul w) :
    Calls Tryd.prog 18 #[.agg #[vn, vf], .int .i64 node] w fun e w' => (∃ u, e = .returned (.agg #[.int .i64 (askC g node), u]) ∧ w'.ownsRow (w.heap.size + 1) 2 1 u (toL g node).length (vals (toL g node))) ∧ Below w.heap.size w w' := by
  have hx : Below w.heap.size w ((w.alloc (.cells #[vn, vf] 31)).alloc (.cells #[.int .i64 0, .slice none 0 0] 37)) := ((Below.refl _ w).alloc (Nat.le_refl _) _).alloc (by simp) _
  have hz : ((w.alloc (.cells #[vn, vf] 31)).alloc (.cells #[.int .i64 0, .slice none 0 0] 37)).heap.size = w.heap.size + 1 + 1 := by simp
  have hrb : ((w.alloc (.cells #[vn, vf] 31)).alloc (.cells #[.int .i64 0, .slice none 0 0] 37)).heap[w.heap.size + 1]? = some (.cells #[.int .i64 0, .slice none 0 0] 37) := by
    have := heap_alloc_new (w.alloc (.cells #[vn, vf] 31)) (.cells #[.int .i64 0, .slice none 0 0] 37)
    rw [World.size_alloc] at this
    exact this
  have HF := hid (at_toOf B g vn vf node _ hsm (ha.below hx) (hr.below hx hr.lt))
  have HX := hid hx
  have HZ := hid hz
  obtain ⟨an, cn, rfl⟩ := ha.nodes.slice
  obtain ⟨af, cf, rfl⟩ := ha.flows.slice
  clear ha hsm hx hr hz
  go_enter Tryd.func18, Tryd.ntmps18
  go_wp2_with fail
  generalize (w.alloc (.cells #[.slice an g.nodes.length cn, .slice af g.flows.length cf] 31)).alloc (.cells #[.int .i64 0, .slice none 0 0] 37) = w0 at *
  refine HF.out.mono ?_
  rintro e w1 ⟨⟨u, rfl, ho⟩, hb1⟩
  have hz1 := hb1.size
  have hzz := HZ.out
  have l1 : w.heap.size + 1 < w1.heap.size := by omega
  have hr1 := (hb1.block (w.heap.size + 1) (by omega)).trans hrb
  obtain ⟨au, cu, rfl⟩ := Ints.owns_slice ho
  have HO := hid (owns_weak (B' := w.heap.size + 1 + 1) ho (by omega))
  have HB1 := hid (HX.out.trans (hb1.mono (by omega)))
  have r0 : w1.cell? ⟨w.heap.size + 1, 0, none⟩ = some (.int .i64 0) := by simp [World.cell?, hr1]
  have r1 : w1.cell? ⟨w.heap.size + 1, 1, none⟩ = some (.slice none 0 0) := by simp [World.cell?, hr1]
  have f0 : w1.frozen? ⟨w.heap.size + 1, 0, none⟩ = false := by simp [World.frozen?, hr1]
  have f1 : w1.frozen? ⟨w.heap.size + 1, 1, none⟩ = false := by simp [World.frozen?, hr1]
  generalize hxs : toL g node = xs at *
  generalize hac : askC g node = ac at *
  have HXS := hid hxs
  have HAC := hid hac
  clear hxs hac ho hb1 hr1 hrb HF hz1 hzz
  go_wp2
  refine bodyPost_ret (v := .agg #[.int .i64 ac, .slice au xs.length cu]) (by simp [results, Tryd.results18, go_sem, r0, r1]) rfl ⟨⟨_, by rw [HAC.out], ?_⟩, setB (setB HB1.out (Nat.le_succ _) _) (Nat.le_succ _) _⟩
  rw [HXS.out]
  exact owns_weak (owns_set (owns_set HO.out (by omega) _) (by omega) _) (by omega)
end Gr
end Go.Proofs.YtkmcfdcdgcdpgaaDoor
