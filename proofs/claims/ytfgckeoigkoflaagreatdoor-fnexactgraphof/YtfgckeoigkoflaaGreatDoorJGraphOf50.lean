/- The law's comparison, marks and holds of a GraphResult. -/
import Derived.Test.YtfgckeoigkoflaaGreatDoorJGraphOf24
import Derived.Test.YtfgckeoigkoflaaGreatDoorJGraphOf49
import Derived.Test.YtfgckeoigkoflaaGreatDoorJGraphOf26
namespace Go.Proofs.YtfgckeoigkoflaaGreatDoor
open Go.RowKit Go.Deep
set_option linter.unusedVariables false
namespace Gn
open Ex (hid)
open Nd (NodeD cellsI64 lt_of_cell)
open Rc
set_option maxRecDepth 100000 in
set_option maxHeartbeats 2000000 in
theorem eqW (B1 B2 : Nat) (ss : List GNodeD) (v1 v2 : Value) (w : World) (hlen : ss.length ≤ 1000000000000000) (hl : ∀ s ∈ ss, Small1 1048576 s) (h1 : At w B1 v1 ss) (h2 : At w B2 v2 ss) :
    Calls Tryz.prog 49 #[v1, v2] w fun e w' => e = .returned (.bool true) ∧ Below w.heap.size w w' := by
  obtain ⟨a1, c1, rfl⟩ := h1.slice
  obtain ⟨a2, c2, rfl⟩ := h2.slice
  have H1 := hid h1
  have H2 := hid h2
  have HL := hid hl
  clear h1 h2 hl
  have hb : ((ss.length : Int) != (ss.length : Int)) = false := by simp
  go_enter Tryz.func49, Tryz.ntmps49
  go_wp2
  go_loopw [5] (fun i wr => ∃ k : Nat, i = .int .i64 k ∧ k ≤ ss.length ∧ Below w.heap.size w wr) (fun i _ => ss.length - (intOf i).toNat)
  case atStart => exact ⟨0, rfl, Nat.zero_le _, Below.refl _ _⟩
  case round =>
    obtain ⟨k, rfl, hk, hbel⟩ := hrel
    by_cases hlt : k < ss.length
    · obtain ⟨g1, o1, c1', rfl, hg1, p0, p1, p2, p3, px, hc1⟩ := (H1.out.below hbel).at hlt
      obtain ⟨g2, o2, c2', rfl, hg2, u0, u1, u2, u3, ux, hc2⟩ := (H2.out.below hbel).at hlt
      have hsm := HL.out _ (List.getElem_mem hlt)
      have HE : Hid (∀ w1 : World, Below wr.heap.size wr w1 → Calls Tryz.prog 84 #[.agg #[.int .i64 ss[k].kind, .int .i64 ss[k].step, .string ss[k].name, .int .i64 ss[k].arg, c1'], .agg #[.int .i64 ss[k].kind, .int .i64 ss[k].step, .string ss[k].name, .int .i64 ss[k].arg, c2']] w1 fun e w' => e = .returned (.bool true) ∧ Below w1.heap.size w1 w') := fun w1 h => eqOne B1 B2 ss[k] c1' c2' w1 hsm (hc1.below h) (hc2.below h)
      obtain ⟨a3, c3, rfl⟩ := hc1.slice
      obtain ⟨a5, c5, rfl⟩ := hc2.slice
      clear hc1 hc2 hsm
      have t1 : (k : Int) < (ss.length : Int) := by omega
      go_wp2
      go_region_with ((go_at_call 84; refine (HE.out _ ?_).mono ?_; exact (Below.refl wr.heap.size wr).drew; rintro e w1 ⟨rfl, hb1⟩; have hbb : Below wr.heap.size wr w1 := ((Below.refl wr.heap.size wr).drew).trans hb1))
      all_goals go_wp2
      all_goals exact ⟨⟨k + 1, by simp, by omega, hbel.trans (hbb.mono hbel.size)⟩, by simp [intOf]; omega⟩
    · go_wp2
      go_ret
      exact ⟨rfl, hbel⟩
end Gn
namespace Fl
open Ex (hid)
open Nd (NodeD cellsI64 lt_of_cell)
open Rc
set_option maxRecDepth 100000 in
set_option maxHeartbeats 2000000 in
theorem eqW (B1 B2 : Nat) (ss : List FlowD) (v1 v2 : Value) (w : World) (hlen : ss.length ≤ 1000000000000000) (hl : ∀ s ∈ ss, Small1 1048576 s) (h1 : At w B1 v1 ss) (h2 : At w B2 v2 ss) :
    Calls Tryz.prog 50 #[v1, v2] w fun e w' => e = .returned (.bool true) ∧ Below w.heap.size w w' := by
  obtain ⟨a1, c1, rfl⟩ := h1.slice
  obtain ⟨a2, c2, rfl⟩ := h2.slice
  have H1 := hid h1
  have H2 := hid h2
  have HL := hid hl
  clear h1 h2 hl
  have hb : ((ss.length : Int) != (ss.length : Int)) = false := by simp
  go_enter Tryz.func50, Tryz.ntmps50
  go_wp2
  go_loopw [5] (fun i wr => ∃ k : Nat, i = .int .i64 k ∧ k ≤ ss.length ∧ Below w.heap.size w wr) (fun i _ => ss.length - (intOf i).toNat)
  case atStart => exact ⟨0, rfl, Nat.zero_le _, Below.refl _ _⟩
  case round =>
    obtain ⟨k, rfl, hk, hbel⟩ := hrel
    by_cases hlt : k < ss.length
    · obtain ⟨g1, o1, c1', rfl, hg1, p0, p1, px, hc1⟩ := (H1.out.below hbel).at hlt
      obtain ⟨g2, o2, c2', rfl, hg2, u0, u1, ux, hc2⟩ := (H2.out.below hbel).at hlt
      have hsm := HL.out _ (List.getElem_mem hlt)
      have HE : Hid (∀ w1 : World, Below wr.heap.size wr w1 → Calls Tryz.prog 85 #[.agg #[.int .i64 ss[k].src, .int .i64 ss[k].dst, c1'], .agg #[.int .i64 ss[k].src, .int .i64 ss[k].dst, c2']] w1 fun e w' => e = .returned (.bool true) ∧ Below w1.heap.size w1 w') := fun w1 h => eqOne B1 B2 ss[k] c1' c2' w1 hsm (hc1.below h) (hc2.below h)
      obtain ⟨a3, c3, rfl⟩ := hc1.slice
      obtain ⟨a5, c5, rfl⟩ := hc2.slice
      clear hc1 hc2 hsm
      have t1 : (k : Int) < (ss.length : Int) := by omega
      go_wp2
      go_region_with ((go_at_call 85; refine (HE.out _ ?_).mono ?_; exact (Below.refl wr.heap.size wr).drew; rintro e w1 ⟨rfl, hb1⟩; have hbb : Below wr.heap.size wr w1 := ((Below.refl wr.heap.size wr).drew).trans hb1))
      all_goals go_wp2
      all_goals exact ⟨⟨k + 1, by simp, by omega, hbel.trans (hbb.mono hbel.size)⟩, by simp [intOf]; omega⟩
    · go_wp2
      go_ret
      exact ⟨rfl, hbel⟩
end Fl
namespace Gr
open Ex (hid)
open Nd (NodeD)
open Gn (GNodeD)
open Fl (FlowD)
open Nst (own)
open Nk (Amid)
open Gk (Sav)
structure GA (w : World) (B : Nat) (vn vf : Value) (g : GraphD) : Prop where
  nodes : Gn.At w B vn g.nodes
  flows : Fl.At w B vf g.flows
theorem GA.below {w w' : World} {B : Nat} {vn vf : Value} {g : GraphD} (h : GA w B vn vf g) (hb : Below w.heap.size w w') : GA w' B vn vf g := ⟨h.nodes.below hb, h.flows.below hb⟩
theorem GA.mono {w : World} {B B' : Nat} {vn vf : Value} {g : GraphD} (h : GA w B vn vf g) (hB : B' ≤ B) : GA w B' vn vf g := ⟨h.nodes.mono hB, h.flows.mono hB⟩
theorem GO.ga {w : World} {B : Nat} {vn vf : Value} {g : GraphD} {E F : Nat → Value} (h : GO w B vn vf g E F) : GA w B vn vf g := ⟨h.ns.at, h.fs.at⟩
theorem small_n {g : GraphD} (h : Few2 g) : ∀ s ∈ g.nodes, Gn.Small1 1048576 s := fun s hs => by
  have := h.fine.ns s hs
  exact ⟨by omega, by omega⟩
theorem small_f {g : GraphD} (h : Few2 g) : ∀ s ∈ g.flows, Fl.Small1 1048576 s := fun s hs => by
  have := h.fine.fs s hs
  unfold Fl.Small1
  omega
set_option maxRecDepth 100000 in
set_option maxHeartbeats 2000000 in
theorem eqGr (B1 B2 : Nat) (g : GraphD) (n1 f1 n2 f2 : Value) (w : World) (hl : Few2 g) (h1 : GA w B1 n1 f1 g) (h2 : GA w B2 n2 f2 g) :
    Calls Tryz.prog 22 #[.agg #[n1, f1], .agg #[n2, f2]] w fun e w' => e = .returned (.bool true) ∧ Below w.heap.size w w' := by
  obtain ⟨a1, k1, rfl⟩ := h1.nodes.slice
  obtain ⟨a2, k2, rfl⟩ := h1.flows.slice
  obtain ⟨a3, k3, rfl⟩ := h2.nodes.slice
  obtain ⟨a4, k4, rfl⟩ := h2.flows.slice
  have hB : Below w.heap.size w ((w.alloc (.cells #[.slice a1 g.nodes.length k1, .slice a2 g.flows.length k2] 27)).alloc (.cells #[.slice a3 g.nodes.length k3, .slice a4 g.flows.length k4] 27)) := ((Below.refl _ w).alloc (Nat.le_refl _) _).alloc (by simp) _
  have H1 := hid (h1.below hB)
  have H2 := hid (h2.below hB)
  have HL := hid hl
  have HB := hid hB
  clear h1 h2 hB hl
  go_enter Tryz.func22, Tryz.ntmps22
  go_wp2_with fail
  refine (Gn.eqW B1 B2 g.nodes _ _ _ (by have := HL.out.n; omega) (small_n HL.out) H1.out.nodes H2.out.nodes).mono ?_
  rintro e w1 ⟨rfl, hb1⟩
  have r1 := hb1.size
  simp only [World.size_alloc] at r1
  have d1 := (hb1.cell (p := ⟨w.heap.size, 1, none⟩) (by simp; omega)).trans (show _ = some (.slice a2 g.flows.length k2) by go_simp)
  have d2 := (hb1.cell (p := ⟨w.heap.size + 1, 1, none⟩) (by simp)).trans (show _ = some (.slice a4 g.flows.length k4) by go_simp)
  have l1 : w.heap.size < w1.heap.size := by omega
  have l2 : w.heap.size + 1 < w1.heap.size := by omega
  have HB1 := hid (HB.out.trans (hb1.mono HB.out.size))
  have HF := hid (Fl.eqW B1 B2 g.flows _ _ w1 (by have := HL.out.f; omega) (small_f HL.out) (H1.out.flows.below hb1) (H2.out.flows.below hb1))
  clear hb1 H1 H2
  go_wp2_with fail
  refine HF.out.mono ?_
  rintro e w2 ⟨rfl, hb2⟩
  have HB2 := hid (HB1.out.trans (hb2.mono HB1.out.size))
  clear hb2
  go_wp2
  go_ret
  exact ⟨rfl, HB2.out⟩
set_option maxRecDepth 100000 in
set_option maxHeartbeats 2000000 in
theorem eqRes (B1 B2 : Nat) (c : Int) (g : GraphD) (n1 f1 n2 f2 : Value) (w : World) (hl : Few2 g) (h1 : GA w B1 n1 f1 g) (h2 : GA w B2 n2 f2 g) :
    Calls Tryz.prog 8 #[.agg #[.int .i64 c, n1, f1], .agg #[.int .i64 c, n2, f2]] w fun e w' => e = .returned (.bool true) ∧ Below w.heap.size w w' := by
  have hx : Below w.heap.size w ((w.alloc (.cells #[.int .i64 c, n1, f1] 29)).alloc (.cells #[.int .i64 c, n2, f2] 29)) := ((Below.refl _ w).alloc (Nat.le_refl _) _).alloc (by simp) _
  have HM := hid (eqGr B1 B2 g n1 f1 n2 f2 _ hl (h1.below hx) (h2.below hx))
  obtain ⟨a1, k1, rfl⟩ := h1.nodes.slice
  obtain ⟨a2, k2, rfl⟩ := h1.flows.slice
  obtain ⟨a3, k3, rfl⟩ := h2.nodes.slice
  obtain ⟨a4, k4, rfl⟩ := h2.flows.slice
  have HX := hid hx
  clear h1 h2 hx
  have e1 : (c != c) = false := by simp
  go_enter Tryz.func8, Tryz.ntmps8
  go_wp2_with fail
  refine HM.out.mono ?_
  rintro e w1 ⟨rfl, hb⟩
  have HB := hid hb
  clear hb
  go_wp2
  go_ret
  exact ⟨rfl, HX.out.trans (HB.out.mono HX.out.size)⟩
/-- What a graph is marked as. -/
def kG (g : GraphD) : Nat := FlK.kAt (GnK.kAt 1 g.nodes g.nodes.length) g.flows g.flows.length
def mkG (g : GraphD) : GraphD := ⟨GnK.mkS 1 g.nodes, FlK.mkS (GnK.kAt 1 g.nodes g.nodes.length) g.flows⟩
theorem expr16 {g : GraphD} (h : Few2 g) : ∀ j, j < g.nodes.length → (NJ g.nodes j).expr.length ≤ 16 := fun j hj => by
  rw [NJ_eq hj]
  exact (h.fine.ns _ (List.getElem_mem hj)).2
theorem cond16 {g : GraphD} (h : Few2 g) : ∀ j, j < g.flows.length → (FJ g.flows j).cond.length ≤ 16 := fun j hj => by
  rw [FJ_eq hj]
  exact h.fine.fs _ (List.getElem_mem hj)
theorem kN_le {g : GraphD} (h : Few2 g) : GnK.kAt 1 g.nodes g.nodes.length ≤ 100000000000000 := by
  have := GnK.kAt_le (k0 := 1) (expr16 h) _ (Nat.le_refl _)
  have := h.n
  omega
/-- A graph that owns its memory, in blocks of a range. -/
def GIn (w : World) (B C : Nat) (vn vf : Value) (g : GraphD) : Prop := ∃ E F, GO w B vn vf g E F ∧ ∀ b, GnK.Bl vn g.nodes.length E b ∨ FlK.Bl vf g.flows.length F b → b < C
theorem GIn.ga {w : World} {B C : Nat} {vn vf : Value} {g : GraphD} (h : GIn w B C vn vf g) : GA w B vn vf g := by
  obtain ⟨E, F, h, _⟩ := h
  exact h.ga
theorem GIn.keep {w w' : World} {B C : Nat} {vn vf : Value} {g : GraphD} (h : GIn w B C vn vf g) (hb : ∀ b, B ≤ b → b < C → w'.heap[b]? = w.heap[b]?) : GIn w' B C vn vf g := by
  obtain ⟨E, F, h, hC⟩ := h
  refine ⟨E, F, ⟨h.ns.kept (fun b e => hb b (Nst.own_lt h.ns.row e).1 (hC b (.inl (.inl e)))) (fun i hi b e => hb b (Nst.own_lt (h.ns.sub i hi) e).1 (hC b (.inl (.inr ⟨i, hi, e⟩)))), h.fs.kept (fun b e => hb b (Nst.own_lt h.fs.row e).1 (hC b (.inr (.inl e)))) (fun i hi b e => hb b (Nst.own_lt (h.fs.sub i hi) e).1 (hC b (.inr (.inr ⟨i, hi, e⟩)))), h.x1, h.x2, h.x3, h.x4⟩, hC⟩
theorem GIn.below {w w' : World} {B C : Nat} {vn vf : Value} {g : GraphD} (h : GIn w B C vn vf g) (hC : C ≤ w.heap.size) (hb : Below w.heap.size w w') : GIn w' B C vn vf g := h.keep (fun b _ hl => hb.block b (by omega))
theorem GO.into {w : World} {B : Nat} {vn vf : Value} {g : GraphD} {E F : Nat → Value} (h : GO w B vn vf g E F) : GIn w B w.heap.size vn vf g := by
  refine ⟨E, F, h, fun b hb => ?_⟩
  rcases hb with (e | ⟨j, hj, e⟩) | (e | ⟨j, hj, e⟩)
  · exact (Nst.own_lt h.ns.row e).2
  · exact (Nst.own_lt (h.ns.sub j hj) e).2
  · exact (Nst.own_lt h.fs.row e).2
  · exact (Nst.own_lt (h.fs.sub j hj) e).2
theorem bl_lt {w : World} {B : Nat} {vn vf : Value} {g : GraphD} {E F : Nat → Value} (h : GO w B vn vf g E F) : ∀ b, GnK.Bl vn g.nodes.length E b ∨ FlK.Bl vf g.flows.length F b → B ≤ b ∧ b < w.heap.size := fun b hb => by
  rcases hb with (e | ⟨j, hj, e⟩) | (e | ⟨j, hj, e⟩)
  · exact Nst.own_lt h.ns.row e
  · exact Nst.own_lt (h.ns.sub j hj) e
  · exact Nst.own_lt h.fs.row e
  · exact Nst.own_lt (h.fs.sub j hj) e
/-- The nodes are marked: the flows stay; and the other way round. -/
theorem fl_after {w w' : World} {B : Nat} {vn vf : Value} {g : GraphD} {E F : Nat → Value} (h : GO w B vn vf g E F) (hs : Sav w w' (GnK.Bl vn g.nodes.length E)) : FlOAt w' B vf g.flows F :=
  h.fs.kept (fun b e => hs.block b (Nst.own_lt h.fs.row e).2 (fun e2 => by
    rcases e2 with e2 | ⟨j, hj, e2⟩
    · exact h.x1 b e2 e
    · exact h.x3 j hj b e2 e)) (fun i hi b e => hs.block b (Nst.own_lt (h.fs.sub i hi) e).2 (fun e2 => by
    rcases e2 with e2 | ⟨j, hj, e2⟩
    · exact h.x2 b e2 i hi e
    · exact h.x4 j hj b e2 i hi e))
theorem gn_after {w w1 w' : World} {B : Nat} {vn vf : Value} {g : GraphD} {ns : List GNodeD} {E F : Nat → Value} (h : GO w B vn vf g E F) (hl : ns.length = g.nodes.length) (hn : GnOAt w1 B vn ns E) (hs : Sav w1 w' (FlK.Bl vf g.flows.length F)) : GnOAt w' B vn ns E :=
  hn.kept (fun b e => hs.block b (Nst.own_lt hn.row e).2 (fun e2 => by
    rcases e2 with e2 | ⟨j, hj, e2⟩
    · exact h.x1 b e e2
    · exact h.x2 b e j hj e2)) (fun i hi b e => hs.block b (Nst.own_lt (hn.sub i hi) e).2 (fun e2 => by
    have hi' : i < g.nodes.length := by omega
    rcases e2 with e2 | ⟨j, hj, e2⟩
    · exact h.x3 i hi' b e e2
    · exact h.x4 i hi' b e j hj e2))
set_option maxRecDepth 100000 in
set_option maxHeartbeats 4000000 in
theorem markGr (B C : Nat) (g : GraphD) (vn vf : Value) (w : World) (hC : C ≤ w.heap.size) (hl : Few2 g) (h : GIn w B C vn vf g) :
    Calls Tryz.prog 26 #[.agg #[vn, vf], .int .i64 1] w fun e w' => e = .returned (.int .i64 (kG g : Int)) ∧ GA w' B vn vf (mkG g) ∧ Amid w w' B C := by
  obtain ⟨E, F, h, hBC⟩ := h
  have hx : Below w.heap.size w (w.alloc (.cells #[vn, vf] 27)) := (Below.refl _ w).alloc (Nat.le_refl _) _
  have h1 : GO (w.alloc (.cells #[vn, vf] 27)) B vn vf g E F := h.keep (fun b _ hb => hx.block b hb)
  have HM := hid (GnK.markAll B 1 g.nodes E vn _ hl.n (by omega) (by omega) (expr16 hl) h1.ns)
  have H1 := hid h1
  have HX := hid hx
  have HL := hid hl
  have HBC := hid hBC
  have hBl := bl_lt h
  have HBL := hid hBl
  obtain ⟨a1, k1, rfl⟩ := Nst.own_slice h.ns.row
  obtain ⟨a2, k2, rfl⟩ := Nst.own_slice h.fs.row
  have hbx : (w.alloc (.cells #[.slice a1 g.nodes.length k1, .slice a2 g.flows.length k2] 27)).heap[w.heap.size]? = some (.cells #[.slice a1 g.nodes.length k1, .slice a2 g.flows.length k2] 27 (0, 0)) := heap_alloc_new w _
  have HBX := hid hbx
  have hz : w.heap.size < (w.alloc (.cells #[.slice a1 g.nodes.length k1, .slice a2 g.flows.length k2] 27)).heap.size := by simp
  have HZ := hid hz
  clear h h1 hx hl hBC hBl hbx hz
  go_enter Tryz.func26, Tryz.ntmps26
  go_wp2_with fail
  generalize w.alloc (.cells #[.slice a1 g.nodes.length k1, .slice a2 g.flows.length k2] 27) = w1 at *
  refine HM.out.mono ?_
  rintro e w2 ⟨rfl, hn2, hs2⟩
  have hbx2 := (hs2.block w.heap.size HZ.out (fun e => by have := (HBL.out _ (.inl e)).2; omega)).trans HBX.out
  have d1 := bcell hbx2 1
  have hzw : w.heap.size < w2.heap.size := (Array.getElem?_eq_some_iff.1 hbx2).1
  have hf2 := fl_after H1.out hs2
  have HF := hid (FlK.markAll B (GnK.kAt 1 g.nodes g.nodes.length) g.flows F _ w2 HL.out.f (GnK.kAt_pos (by omega) _ _) (kN_le HL.out) (cond16 HL.out) hf2)
  have HN2 := hid hn2
  have HS2 := hid hs2
  clear hn2 hs2 hf2 hbx2 HM
  generalize hkk : GnK.kAt 1 g.nodes g.nodes.length = kk at *
  have HKK := hid hkk
  clear hkk
  go_wp2_with fail
  refine HF.out.mono ?_
  rintro e w3 ⟨rfl, hf3, hs3⟩
  have hn3 := gn_after H1.out (GnK.mkS_len 1 g.nodes) HN2.out hs3
  have HF3 := hid hf3
  have HN3 := hid hn3
  have HS3 := hid hs3
  clear hf3 hn3 hs3 HF
  go_wp2
  go_ret
  refine ⟨by unfold kG; rw [HKK.out]; rfl, ⟨HN3.out.at, ?_⟩, ?_⟩
  · show Fl.At w3 B _ (FlK.mkS (GnK.kAt 1 g.nodes g.nodes.length) g.flows)
    rw [HKK.out]
    exact HF3.out.at
  · have hz1 := HX.out.size
    have hz2 := HS2.out.size
    have hz3 := HS3.out.size
    refine ⟨HS3.out.os.trans (HS2.out.os.trans HX.out.os), HS3.out.tape.trans (HS2.out.tape.trans HX.out.tape), HS3.out.output.trans (HS2.out.output.trans HX.out.output), by omega, fun b hb ho => ?_⟩
    have nb : ∀ {P : Prop}, (GnK.Bl (.slice a1 g.nodes.length k1) g.nodes.length E b ∨ FlK.Bl (.slice a2 g.flows.length k2) g.flows.length F b) → P := fun {P} hq => by
      have := HBC.out b hq
      have := (HBL.out b hq).1
      omega
    exact (HS3.out.block b (by omega) (fun e => nb (.inr e))).trans ((HS2.out.block b (by omega) (fun e => nb (.inl e))).trans (HX.out.block b hb))
set_option maxRecDepth 100000 in
set_option maxHeartbeats 2000000 in
theorem markRes (B C : Nat) (c : Int) (g : GraphD) (vn vf : Value) (w : World) (hC : C ≤ w.heap.size) (hl : Few2 g) (h : GIn w B C vn vf g) :
    Calls Tryz.prog 11 #[.agg #[.int .i64 c, vn, vf], .int .i64 1] w fun e w' => e = .returned (.int .i64 (kG g : Int)) ∧ GA w' B vn vf (mkG g) ∧ Amid w w' B C := by
  have hx : Below w.heap.size w (w.alloc (.cells #[.int .i64 c, vn, vf] 29)) := (Below.refl _ w).alloc (Nat.le_refl _) _
  have HM := hid (markGr B C g vn vf _ (by simp; omega) hl (h.below hC hx))
  have HX := hid hx
  obtain ⟨a1, k1, rfl⟩ := h.ga.nodes.slice
  obtain ⟨a2, k2, rfl⟩ := h.ga.flows.slice
  clear h hx hl
  generalize kG g = kk at *
  go_enter Tryz.func11, Tryz.ntmps11
  go_wp2_with fail
  refine HM.out.mono ?_
  rintro e w1 ⟨rfl, ha1, ham⟩
  have HA1 := hid ha1
  have HAM := hid ((Amid.of_below HX.out).trans ham)
  clear ha1 ham HM
  go_wp2
  go_ret
  exact ⟨rfl, HA1.out, HAM.out⟩
set_option maxRecDepth 100000 in
set_option maxHeartbeats 4000000 in
theorem heldGr (B : Nat) (g : GraphD) (vn vf : Value) (w : World) (hl : Few2 g) (h : GA w B vn vf (mkG g)) :
    Calls Tryz.prog 27 #[.agg #[vn, vf], .int .i64 1] w fun e w' => e = .returned (.int .i64 (kG g : Int)) ∧ Below w.heap.size w w' := by
  have hx : Below w.heap.size w (w.alloc (.cells #[vn, vf] 27)) := (Below.refl _ w).alloc (Nat.le_refl _) _
  have HM := hid (GnK.heldAll B 1 g.nodes vn _ hl.n (by omega) (by omega) (expr16 hl) (h.nodes.below hx))
  have HF := hid (fun w' (hb : Below w.heap.size w w') => FlK.heldAll B (GnK.kAt 1 g.nodes g.nodes.length) g.flows vf w' hl.f (GnK.kAt_pos (by omega) _ _) (kN_le hl) (cond16 hl) (h.flows.below hb))
  have HX := hid hx
  obtain ⟨a1, k1, rfl⟩ := h.nodes.slice
  obtain ⟨a2, k2, rfl⟩ := h.flows.slice
  clear h hx hl
  have hkd : kG g = FlK.kAt (GnK.kAt 1 g.nodes g.nodes.length) g.flows g.flows.length := rfl
  have HKD := hid hkd
  generalize GnK.kAt 1 g.nodes g.nodes.length = kn at *
  generalize FlK.kAt kn g.flows g.flows.length = kf at *
  clear hkd
  go_enter Tryz.func27, Tryz.ntmps27
  go_wp2_with fail
  refine HM.out.mono ?_
  rintro e w1 ⟨rfl, hb1⟩
  have r1 := hb1.size
  simp only [World.size_alloc] at r1
  have d1 := (hb1.cell (p := ⟨w.heap.size, 1, none⟩) (by simp)).trans (show _ = some (.slice a2 (mkG g).flows.length k2) by go_simp)
  have l1 : w.heap.size < w1.heap.size := by omega
  have HB1 := hid (HX.out.trans (hb1.mono HX.out.size))
  have q1 : ¬ (kn : Int) < 0 := by omega
  clear hb1 HM
  go_wp2_with fail
  refine (HF.out _ HB1.out).mono ?_
  rintro e w2 ⟨rfl, hb2⟩
  have HB2 := hid (HB1.out.trans (hb2.mono HB1.out.size))
  have q2 : ¬ (kf : Int) < 0 := by omega
  clear hb2
  go_wp2
  go_ret
  exact ⟨by rw [HKD.out]; rfl, HB2.out⟩
set_option maxRecDepth 100000 in
set_option maxHeartbeats 2000000 in
theorem heldRes (B : Nat) (c : Int) (g : GraphD) (vn vf : Value) (w : World) (hl : Few2 g) (h : GA w B vn vf (mkG g)) :
    Calls Tryz.prog 12 #[.agg #[.int .i64 c, vn, vf], .int .i64 1] w fun e w' => e = .returned (.int .i64 (kG g : Int)) ∧ Below w.heap.size w w' := by
  have hx : Below w.heap.size w (w.alloc (.cells #[.int .i64 c, vn, vf] 29)) := (Below.refl _ w).alloc (Nat.le_refl _) _
  have HM := hid (heldGr B g vn vf _ hl (h.below hx))
  have HX := hid hx
  obtain ⟨a1, k1, rfl⟩ := h.nodes.slice
  obtain ⟨a2, k2, rfl⟩ := h.flows.slice
  clear h hx hl
  generalize kG g = kk at *
  go_enter Tryz.func12, Tryz.ntmps12
  go_wp2_with fail
  refine HM.out.mono ?_
  rintro e w1 ⟨rfl, hb1⟩
  have HB1 := hid (HX.out.trans (hb1.mono HX.out.size))
  have q1 : ¬ (kk : Int) < 0 := by omega
  clear hb1 HM
  go_wp2
  go_ret
  exact ⟨rfl, HB1.out⟩
end Gr
end Go.Proofs.YtfgckeoigkoflaaGreatDoor
