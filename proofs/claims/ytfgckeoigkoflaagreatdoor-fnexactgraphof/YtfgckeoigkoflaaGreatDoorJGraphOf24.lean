/- Laid together: GqP, GkB, MkT. -/
import Derived.Test.YtfgckeoigkoflaaGreatDoorJGraphOf48
import Derived.Test.YtfgckeoigkoflaaGreatDoorJGraphOf18
import Derived.Test.YtfgckeoigkoflaaGreatDoorJGraphOf17
import Derived.Test.YtfgckeoigkoflaaGreatDoorJGraphOf20
import Derived.Test.YtfgckeoigkoflaaGreatDoorProg
import Derived.Lib.ItoaNum
import Derived.WalkKit
import Derived.Below
import Derived.Lib.SlBytesConst
/- The program's GraphOf. Conditions: both tables of rules lie as their initialisers lay them. -/
namespace Go.Proofs.YtfgckeoigkoflaaGreatDoor
open Go.RowKit
set_option linter.unusedVariables false
namespace Gr
open Ex (hid nvals at_of_owns owns_keep inR)
open Nd (NodeD)
open Gn (GNodeD)
open Fl (FlowD)
open St (StepD)
open Nst (own)
open Pf (PJ PJ_eq kidsL pFault PAt PCells KidsAt path Rul procSteps)
open Rc
/-- What GraphOf answers. -/
def GPost (ss : List StepD) (w : World) (e : Ending) (w' : World) : Prop := (∃ vn vf E F, e = .returned (.agg #[.int .i64 (pFault ss), vn, vf]) ∧ GO w' (w.heap.size + 1) vn vf (graphR ss) E F) ∧ Below w.heap.size w w'
theorem GO.nil (w : World) (B : Nat) (E F : Nat → Value) : GO w B (.slice none 0 0) (.slice none 0 0) ⟨[], []⟩ E F :=
  ⟨Nst.At.nil _ _ _ _ _ _, Nst.At.nil _ _ _ _ _ _, (fun b e => by cases e), (fun b e => by cases e), (fun i hi => by cases hi), (fun i hi => by cases hi)⟩
theorem GO.keep {w w' : World} {B : Nat} {vn vf : Value} {g : GraphD} {E F : Nat → Value} (h : GO w B vn vf g E F) (hb : ∀ b, B ≤ b → b < w.heap.size → w'.heap[b]? = w.heap[b]?) : GO w' B vn vf g E F := ⟨h.ns.keep hb, h.fs.keep hb, h.x1, h.x2, h.x3, h.x4⟩
theorem GO.mono {w : World} {B B' : Nat} {vn vf : Value} {g : GraphD} {E F : Nat → Value} (h : GO w B vn vf g E F) (hb : B' ≤ B) : GO w B' vn vf g E F := ⟨h.ns.mono hb, h.fs.mono hb, h.x1, h.x2, h.x3, h.x4⟩
theorem db_new {w : World} {D M : Nat} {u : Value} (hD : w.heap[D]? = some (.cells #[u, .slice none 0 0, .map (some M)] 54 (0, 0))) (hM : ∃ c, w.heap[M]? = some (.map #[] c)) (h1 : D ≠ M ∧ D ≤ M + 1) : DB w D (fun b => b = M ∨ own (.slice none 0 0) b) u ⟨[], []⟩ := by
  obtain ⟨c, hc⟩ := hM
  exact ⟨.slice none 0 0, M, id, fun _ => .slice none 0 0, [], ⟨hD, World.ownsRow_nil _ _ _ _, (fun j hj => by cases hj), (fun j hj => by cases hj), h1, Mp.At.nil hc, List.Perm.refl _, (fun p hp => by cases hp), (fun i j hi => by cases hi), List.Pairwise.nil, (fun i hi => by cases hi)⟩, fun b => Iff.rfl⟩
set_option maxRecDepth 100000 in
set_option maxHeartbeats 16000000 in
theorem implGraphOf (ss : List StepD) (v : Value) (w : World) (hsm : St.Small 1048576 ss) (ha : St.At w 0 v ss) (hr : Rul w) (hN : NRul w) : Calls Tryz.prog 7 #[v] w (GPost ss w) := by
  obtain ⟨a, cap, rfl⟩ := ha.slice
  have hb0 : Below w.heap.size w (w.alloc (.cells #[.int .i64 0, .slice none 0 0, .slice none 0 0] 29)) := (Below.refl _ w).alloc (Nat.le_refl _) _
  have HP := hid (procSteps ss _ _ hsm (ha.below hb0) (hr.below hb0 hr.lt))
  have HB0 := hid hb0
  have HN := hid hN
  have hR0 : (w.alloc (.cells #[.int .i64 0, .slice none 0 0, .slice none 0 0] 29)).heap[w.heap.size]? = some (.cells #[.int .i64 0, .slice none 0 0, .slice none 0 0] 29 (0, 0)) := heap_alloc_new w _
  have HR0 := hid hR0
  have HZ0 : Hid ((w.alloc (.cells #[.int .i64 0, .slice none 0 0, .slice none 0 0] 29)).heap.size = w.heap.size + 1) := hid (by simp)
  clear ha hr hN hsm hb0 hR0
  go_enter Tryz.func7, Tryz.ntmps7
  go_wp2_with fail
  generalize w.alloc (.cells #[.int .i64 0, .slice none 0 0, .slice none 0 0] 29) = w0 at *
  refine HP.out.mono ?_
  rintro e w1 ⟨⟨u, rfl, hu1, hu2⟩, hb1⟩
  have hz0 := HZ0.out
  have hz1 : w.heap.size < w1.heap.size := by have := hb1.size; omega
  have hR1 := (hb1.block w.heap.size (by omega)).trans HR0.out
  have hB1 : Below w.heap.size w w1 := HB0.out.trans (hb1.mono (by omega))
  have HB1 := hid hB1
  have HR1 := hid hR1
  have r0 := bcell hR1 0
  have r1 := bcell hR1 1
  have r2 := bcell hR1 2
  have f0 := bfree hR1 0
  have f1 := bfree hR1 1
  have f2 := bfree hR1 2
  by_cases hp : pFault ss = 0
  · have hP := hu2 hp
    have HPA := hid hP
    have HPF := hid hp
    obtain ⟨h0, hl⟩ := pFault_len hp
    obtain ⟨hsrt, hbnd⟩ := graph_srt hp h0
    have hGR : graphR ss = graphL ss := if_pos hp
    have HENV : Hid (Env ss u w1) := hid ⟨hP, HN.out.below HB1.out HN.out.lt, hp, hl, fun j hj => by have := (few hp hj).2.1; omega, fun j hj => by have := (few hp hj).2.2; omega, fun j hj => by have := (few hp hj).1; omega⟩
    obtain ⟨gs, cu, rfl, hgs, _⟩ := step_at (w := w1) hP (Below.refl _ _)
    have hord := drawn_ord hp h0
    have hfew := step_few hl 8 (addN ⟨[], []⟩ (bareN 1 0)) 0
    have hNB := NB8
    have hFB := FB8
    have hg1 : (addN ⟨[], []⟩ (bareN 1 0)).nodes.length = 1 := rfl
    have hg2 : (addN ⟨[], []⟩ (bareN 1 0)).flows.length = 0 := rfl
    have hdn : (drawnG ss).1.nodes.length ≤ 200000000000 := by have := hfew.n; rw [hg1] at this; unfold drawnG; omega
    have hdf : (drawnG ss).1.flows.length ≤ 600000000000 := by have := hfew.f; rw [hg2] at this; unfold drawnG; omega
    have hdi : (drawnG ss).2.1 ≤ 100000000000000 := by have := hord.i; omega
    have hdo : (drawnG ss).2.2 ≤ 100000000000000 := by have := hord.o2; omega
    have HSR := hid hsrt
    have HGR := hid hGR
    have HDB := hid (And.intro hdn (And.intro hdf (And.intro hdi hdo)))
    have hmm : ∀ w, (Instr.makeMap 51 none).run Tryz.prog w = .ok (.map (some w.heap.size)) (w.alloc (.map #[] 0)) := fun w => rfl
    have hb2 : Below w1.heap.size w1 ((w1.alloc (.map #[] 0)).alloc (.cells #[.slice (some ⟨gs, 0, none⟩) ss.length cu, .slice none 0 0, .map (some w1.heap.size)] 54)) := ((Below.refl _ w1).alloc (Nat.le_refl _) _).alloc (by simp) _
    have HB2 := hid hb2
    have HD2 : Hid (DB ((w1.alloc (.map #[] 0)).alloc (.cells #[.slice (some ⟨gs, 0, none⟩) ss.length cu, .slice none 0 0, .map (some w1.heap.size)] 54)) (w1.heap.size + 1) (fun b => b = w1.heap.size ∨ own (.slice none 0 0) b) (.slice (some ⟨gs, 0, none⟩) ss.length cu) ⟨[], []⟩) := hid (db_new (blk2 _ _ _) ⟨0, (Below.heap_alloc _ _ _ (by simp)).trans (heap_alloc_new w1 _)⟩ (by omega))
    have HA1 := hid (addNodeA (w1.heap.size + 1) _ _ ⟨[], []⟩ 1 _ 0 0 0 0 0 ⟨#[]⟩ none none none 0 0 0 0 0 0 _ HD2.out (HENV.out.rul.below hb2 HENV.out.rul.lt) rfl rfl (by simp))
    unfold sval at HA1
    clear hu1 hu2 hb1 hB1 hR1 hz0 hsrt hbnd hGR hord hfew hNB hFB hg1 hg2 hdn hdf hdi hdo hb2 hP r0 r1 r2 f0 f1 f2
    rw [hp]
    clear hp hl
    go_wp2_with fail
    refine HA1.out.mono ?_
    rintro e w3 ⟨p0, S3, rfl, hG3, hF3, hp3⟩
    have hD : Hid (w1.heap.size + 1 ≤ w1.heap.size + 1) := hid (Nat.le_refl _)
    obtain ⟨D, hDe⟩ : ∃ D, D = w1.heap.size + 1 := ⟨_, rfl⟩
    rw [← hDe] at hG3 hF3 hp3 HD2 HA1
    rw [← hDe]
    have hwp : w1.heap.size + 1 ≤ D := by omega
    have HBw : Hid (Below w1.heap.size w1 w3) := hid (hF3.env HB2.out HD2.out hwp)
    have HG3 := hid hG3
    have HP0 := hid hp3
    have hgood : Good (addN ⟨[], []⟩ (bareN 1 0)) := good_nil.addN _
    obtain ⟨g2, cu2, e2, hgs2, hst⟩ := step_at (w := w3) HENV.out.at' HBw.out
    obtain ⟨rfl, rfl⟩ : g2 = gs ∧ cu2 = cu := by simpa using e2.symm
    obtain ⟨kv, vc, ve, hpc, t0, t1, t2, t3, t4, t5, t6, t7, t8⟩ := hst 0 h0
    obtain ⟨⟨ak, ck, rfl⟩, ⟨ac, cc, rfl⟩, ae, ce, rfl⟩ := pc_slices hpc
    have HS4 := hid (DG_all ss _ w1 HENV.out 8 D S3 (addN ⟨[], []⟩ (bareN 1 0)) 0 h0 _ _ _ w3 hwp HBw.out HG3.out hgood hpc (by omega) (by have := NB8; show 1 + NB 8 ≤ _; omega) (by have := FB8; show 0 + FB 8 ≤ _; omega))
    unfold pstep at HS4
    unfold sval at HS4
    have h0' : (0 : Int) < (ss.length : Int) := by omega
    have hzg := cell_lt t0
    replace HS4 : Hid (Calls Tryz.prog 19 #[.pointer (some ⟨D, 0, none⟩), .agg #[.int .i64 0, .int .i64 ((path ss 1).length : Int), .slice ak (kidsL ss 0).length ck, .int .i64 ss[0].kind, .int .i64 ss[0].parent, .string ss[0].name, .int .i64 ss[0].arg, .slice ac ss[0].cond.length cc, .slice ae ss[0].expr.length ce]] w3 (SPost D S3 (.slice (some ⟨g2, 0, none⟩) ss.length cu2) (drawnG ss) w3)) := HS4
    clear hG3 hF3 hp3 HA1 HD2 hst e2 hpc hgood HB2 hD hDe
    go_wp2_with fail
    refine HS4.out.mono ?_
    rintro e w4 ⟨pi, po, S4, rfl, hG4, hF4, hpi, hpo⟩
    have hal : Below w4.heap.size w4 (w4.alloc (.cells #[.pointer (some ⟨pi, 0, none⟩), .pointer (some ⟨po, 0, none⟩)] 63)) := (Below.refl _ w4).alloc (Nat.le_refl _) _
    have HB4 : Hid (Below w1.heap.size w1 w4) := hid (hF4.env HBw.out HG3.out hwp)
    have HB5 : Hid (Below w1.heap.size w1 (w4.alloc (.cells #[.pointer (some ⟨pi, 0, none⟩), .pointer (some ⟨po, 0, none⟩)] 63))) := hid (HB4.out.trans (hal.mono HB4.out.size))
    have HG5 := hid (hG4.below hal)
    have HL5 := hid (hG4.new (.cells #[.pointer (some ⟨pi, 0, none⟩), .pointer (some ⟨po, 0, none⟩)] 63))
    have HI5 := hid (hpi.below hal)
    have HO5 := hid (hpo.below hal)
    have H05 := hid ((HP0.out.fr HG3.out hF4).below hal)
    have HA5 := hid (addNodeA D S4 (.slice (some ⟨g2, 0, none⟩) ss.length cu2) (drawnG ss).1 2 _ 0 0 0 0 0 ⟨#[]⟩ none none none 0 0 0 0 0 0 _ HG5.out (HENV.out.rul.below HB5.out HENV.out.rul.lt) rfl rfl (by have := HDB.out.1; omega))
    unfold sval at HA5
    clear hG4 hF4 hpi hpo hal HS4 HG3 HP0 HBw t0 t1 t2 t3 t4 t5 t6 t7 t8 hzg HB4 hgs2
    go_wp2_with fail
    obtain ⟨b5, hb5⟩ : ∃ b, b = w4.heap.size := ⟨_, rfl⟩
    rw [← hb5] at HL5
    rw [← hb5]
    clear hb5
    generalize w4.alloc (.cells #[.pointer (some ⟨pi, 0, none⟩), .pointer (some ⟨po, 0, none⟩)] 63) = w5 at *
    refine HA5.out.mono ?_
    rintro e w6 ⟨pe, S6, rfl, hG6, hF6, hpe⟩
    have HB6 := hid (hF6.env HB5.out HG5.out hwp)
    have HL6 := hid (HL5.out.fr hF6)
    have HI6 := hid (HI5.out.fr HG5.out hF6)
    have HO6 := hid (HO5.out.fr HG5.out hF6)
    have H06 := hid (H05.out.fr HG5.out hF6)
    have HG6 : Hid (DB w6 D S6 (.slice (some ⟨g2, 0, none⟩) ss.length cu2) (addN (drawnG ss).1 (bareN 2 0))) := hid hG6
    have HE6 := hid hpe
    have s2 : Srt (linkL (addF (addN (drawnG ss).1 (bareN 2 0)) ⟨0, ((drawnG ss).2.1 : Int), []⟩).flows ⟨((drawnG ss).2.2 : Int), ((drawnG ss).1.nodes.length : Int), []⟩) := HSR.out
    have s1 : Srt (linkL (addN (drawnG ss).1 (bareN 2 0)).flows ⟨((0 : Nat) : Int), ((drawnG ss).2.1 : Int), []⟩) := srt_ahead s2
    have HF1 := hid (addFlow D S6 (.slice (some ⟨g2, 0, none⟩) ss.length cu2) (addN (drawnG ss).1 (bareN 2 0)) p0 pi 0 (drawnG ss).2.1 [] (.slice none 0 0) w6 HG6.out H06.out HI6.out (row_nil _ _ _ _) (Nat.zero_le _) s1 (Nat.zero_le _) HDB.out.2.2.1)
    have x0 := HL6.out.cell 0
    have hzb := HL6.out.lt
    clear hG6 hF6 hpe HA5 HL5 HI5 HO5 H05 HG5 HB5 s1
    go_wp2_with fail
    refine HF1.out.mono ?_
    rintro e w7 ⟨⟨r7, rfl⟩, S7, hG7, hF7⟩
    have HB7 := hid (hF7.env HB6.out HG6.out hwp)
    have HL7 := hid (HL6.out.fr hF7)
    have HO7 := hid (HO6.out.fr HG6.out hF7)
    have HE7 := hid (HE6.out.fr HG6.out hF7)
    have HG7 : Hid (DB w7 D S7 (.slice (some ⟨g2, 0, none⟩) ss.length cu2) (addF (addN (drawnG ss).1 (bareN 2 0)) ⟨0, ((drawnG ss).2.1 : Int), []⟩)) := hid hG7
    have HF2 := hid (addFlow D S7 (.slice (some ⟨g2, 0, none⟩) ss.length cu2) (addF (addN (drawnG ss).1 (bareN 2 0)) ⟨0, ((drawnG ss).2.1 : Int), []⟩) po pe (drawnG ss).2.2 (drawnG ss).1.nodes.length [] (.slice none 0 0) w7 HG7.out HO7.out HE7.out (row_nil _ _ _ _) (Nat.zero_le _) s2 HDB.out.2.2.2 (by have := HDB.out.1; omega))
    clear hG7 hF7 HF1 HL6 HI6 HO6 H06 HE6 HG6 HB6 x0 hzb s2
    have x1 := HL7.out.cell 1
    have hzb := HL7.out.lt
    go_wp2_with fail
    refine HF2.out.mono ?_
    rintro e w8 ⟨⟨r8, rfl⟩, S8, hG8, hF8⟩
    have HB8 := hid (hF8.env HB7.out HG7.out hwp)
    have HG8 : Hid (DB w8 D S8 (.slice (some ⟨g2, 0, none⟩) ss.length cu2) (graphL ss)) := hid hG8
    have hnl : (graphL ss).nodes.length ≤ 1000000000000 := by
      have e1 : (graphL ss).nodes.length = (drawnG ss).1.nodes.length + 1 := by unfold graphL; rw [addF_n, addF_n, addN_n]
      have := HDB.out.1
      omega
    have hfl : (graphL ss).flows.length = (drawnG ss).1.flows.length + 2 := by unfold graphL; rw [addF_f, addF_f, addN_f]
    have HTG := hid (toldGraph D S8 (.slice (some ⟨g2, 0, none⟩) ss.length cu2) (graphL ss) w8 HG8.out HSR.out hnl (by omega) (by have := HDB.out.2.1; omega) rfl)
    have HDl := hid HG8.out.lt
    clear hG8 hF8 HF2 HL7 HO7 HE7 HG7 HB7 x1 hzb hnl hfl HG8
    go_wp2_with fail
    refine HTG.out.mono ?_
    rintro e w9 ⟨vn, vf, E, F, rfl, hGO, hb9⟩
    have HB9 : Hid (Below w1.heap.size w1 w9) := hid (HB8.out.trans (hb9.mono HB8.out.size))
    have hR9 := (HB9.out.block w.heap.size hz1).trans HR1.out
    obtain ⟨an, cn, rfl⟩ := Nst.own_slice hGO.ns.row
    obtain ⟨af, cf, rfl⟩ := Nst.own_slice hGO.fs.row
    have r0 := bcell hR9 0
    have r1 := bcell hR9 1
    have r2 := bcell hR9 2
    have f0 := bfree hR9 0
    have f1 := bfree hR9 1
    have f2 := bfree hR9 2
    have HGO := hid hGO
    have HR9 := hid hR9
    clear hGO hb9 HTG hR9
    go_wp2
    have hM := blk2_set (i := 2) (blk2_set (i := 1) (blk2_set (i := 0) HR9.out (.int .i64 0)) (.slice an (graphL ss).nodes.length cn)) (.slice af (graphL ss).flows.length cf)
    have q0 := bcell hM 0
    have q1 := bcell hM 1
    have q2 := bcell hM 2
    refine bodyPost_ret (v := .agg #[.int .i64 0, .slice an (graphL ss).nodes.length cn, .slice af (graphL ss).flows.length cf]) (by simp [results, Tryz.results7, go_sem, q0, q1, q2]) rfl ?_
    refine ⟨⟨_, _, E, F, by rw [HPF.out], ?_⟩, ?_⟩
    · rw [HGR.out]
      refine (HGO.out.mono (by omega)).keep (fun b hb _ => ?_)
      exact (Below.heap_setCell _ _ _ _ (by dsimp only; omega)).trans ((Below.heap_setCell _ _ _ _ (by dsimp only; omega)).trans (Below.heap_setCell _ _ _ _ (by dsimp only; omega)))
    · exact (((HB1.out.trans (HB9.out.mono (by omega))).setCell (p := ⟨w.heap.size, 0, none⟩) (Nat.le_refl _) _).setCell (p := ⟨w.heap.size, 1, none⟩) (Nat.le_refl _) _).setCell (p := ⟨w.heap.size, 2, none⟩) (Nat.le_refl _) _
  · obtain rfl := hu1 hp
    have hpd : decide (pFault ss = 0) = false := by simp [hp]
    have HPF := hid hp
    clear hu1 hu2 hb1 hB1 hR1 hz0
    go_wp2
    have hM := blk2_set (i := 2) (blk2_set (i := 1) (blk2_set (i := 0) HR1.out (.int .i64 (pFault ss))) (.slice none 0 0)) (.slice none 0 0)
    have q0 := bcell hM 0
    have q1 := bcell hM 1
    have q2 := bcell hM 2
    refine bodyPost_ret (v := .agg #[.int .i64 (pFault ss), .slice none 0 0, .slice none 0 0]) (by simp [results, Tryz.results7, go_sem, q0, q1, q2]) rfl ?_
    refine ⟨⟨_, _, fun _ => .slice none 0 0, fun _ => .slice none 0 0, rfl, ?_⟩, ?_⟩
    · have e : graphR ss = ⟨[], []⟩ := if_neg HPF.out
      rw [e]
      exact GO.nil _ _ _ _
    · exact ((HB1.out.setCell (p := ⟨w.heap.size, 0, none⟩) (Nat.le_refl _) _).setCell (p := ⟨w.heap.size, 1, none⟩) (Nat.le_refl _) _).setCell (p := ⟨w.heap.size, 2, none⟩) (Nat.le_refl _) _
end Gr
end Go.Proofs.YtfgckeoigkoflaaGreatDoor
/- How long what a drawn graph has can be. -/
namespace Go.Proofs.YtfgckeoigkoflaaGreatDoor
set_option linter.unusedVariables false
namespace Gr
open Nd (NodeD)
open Gn (GNodeD)
open Fl (FlowD)
open St (StepD)
open Pf (PJ PJ_eq kidsL pFault)
structure Fine (g : GraphD) : Prop where
  ns : ∀ n ∈ g.nodes, n.name.size ≤ 8 ∧ n.expr.length ≤ 16
  fs : ∀ f ∈ g.flows, f.cond.length ≤ 16
theorem Fine.nil : Fine ⟨[], []⟩ := ⟨(fun n h => by cases h), (fun f h => by cases h)⟩
theorem Fine.addN {g : GraphD} (h : Fine g) {x : GNodeD} (hx : x.name.size ≤ 8 ∧ x.expr.length ≤ 16) : Fine (addN g x) := ⟨fun n hn => by
  rcases List.mem_append.1 hn with hn | hn
  · exact h.ns n hn
  · simp at hn; rw [hn]; exact hx, h.fs⟩
theorem Fine.addF {g : GraphD} (h : Fine g) {x : FlowD} (hx : x.cond.length ≤ 16) : Fine (addF g x) := ⟨h.ns, fun f hf => by
  have hf' : f ∈ linkL g.flows x := hf
  rcases link_mem.1 hf' with e | e
  · rw [e]; exact hx
  · exact h.fs f e⟩
theorem bare_fine (kind : Int) (k : Nat) : (bareN kind k).name.size ≤ 8 ∧ (bareN kind k).expr.length ≤ 16 := ⟨by show (0 : Nat) ≤ 8; omega, by simp [bareN]⟩
theorem many_fine {dr : GraphD → Nat → Drawn} {ss : List StepD} {a : Nat} {ks : List Nat} {g : GraphD} (H : ∀ g k, Fine g → Fine (dr g k).1) (hs : ∀ k, (PJ ss k).cond.length ≤ 16) (hg : Fine g) : ∀ m, Fine (manyN dr ss a ks g m).1
  | 0 => hg
  | m + 1 => (H _ _ (many_fine H hs hg m)).addF (hs _)
theorem join_fine {outs : List Nat} {b : Nat} {g : GraphD} (hg : Fine g) : ∀ m, Fine (joinN outs b g m)
  | 0 => hg
  | m + 1 => (join_fine hg m).addF (by simp)
theorem seq_fine {dr : GraphD → Nat → Drawn} {ks : List Nat} {g : GraphD} {o : Nat} (H : ∀ g k, Fine g → Fine (dr g k).1) (hg : Fine g) : ∀ m, Fine (seqN dr ks g o m).1
  | 0 => hg
  | m + 1 => (H _ _ (seq_fine H hg m)).addF (by simp)
theorem step_fine {ss : List StepD} (hs : ∀ k, (PJ ss k).name.size ≤ 8 ∧ (PJ ss k).cond.length ≤ 16 ∧ (PJ ss k).expr.length ≤ 16) : ∀ f g k, Fine g → Fine (stepG ss f g k).1
  | 0, g, k, h => h
  | f + 1, g, k, h => by
    have ih := step_fine hs f
    rw [stepG]
    split
    · exact join_fine ((many_fine ih (fun k => (hs k).2.1) (h.addN (bare_fine _ _)) _).addN (bare_fine _ _)) _
    split
    · exact join_fine ((many_fine ih (fun k => (hs k).2.1) (h.addN (bare_fine _ _)) _).addN (bare_fine _ _)) _
    split
    · have h1 := ih _ ((kidsL ss k).getD 0 0) (h.addN (x := ⟨11, k, ⟨#[]⟩, (PJ ss k).arg, []⟩) ⟨by show (0 : Nat) ≤ 8; omega, by simp⟩)
      have h2 := ih _ ((kidsL ss k).getD 1 0) (h1.addN (bare_fine 12 k))
      exact (((((h2.addN (bare_fine 13 k)).addF (by simp)).addF (by simp)).addF (by simp)).addF (by simp)).addF (by simp)
    split
    · exact seq_fine ih (ih _ _ h) _
    · exact h.addN ⟨(hs k).1, (hs k).2.2⟩
theorem graph_fine {ss : List StepD} (hp : pFault ss = 0) : Fine (graphL ss) := by
  have hs : ∀ k, (PJ ss k).name.size ≤ 8 ∧ (PJ ss k).cond.length ≤ 16 ∧ (PJ ss k).expr.length ≤ 16 := fun k => by
    by_cases hk : k < ss.length
    · rw [PJ_eq hk]
      exact few hp hk
    · have e : PJ ss k = ⟨0, 0, ByteArray.empty, 0, [], []⟩ := by unfold PJ; rw [List.getElem?_eq_none (by omega)]; rfl
      rw [e]
      exact ⟨by decide, by simp, by simp⟩
  have h1 := step_fine hs 8 _ 0 (Fine.nil.addN (bare_fine 1 0))
  exact ((h1.addN (bare_fine 2 0)).addF (by simp)).addF (by simp)
/-- What is known of the size of a graph that is answered. -/
structure Few2 (g : GraphD) : Prop where
  n : g.nodes.length ≤ 200000000002
  f : g.flows.length ≤ 700000000000
  fine : Fine g
theorem graph_few2 (ss : List StepD) : Few2 (graphR ss) := by
  by_cases hp : pFault ss = 0
  · have e : graphR ss = graphL ss := if_pos hp
    rw [e]
    have hl : ss.length ≤ 24 := (pFault_len hp).2
    have hfew := step_few hl 8 (addN ⟨[], []⟩ (bareN 1 0)) 0
    have h1 := hfew.n
    have h2 := hfew.f
    have hN := NB8
    have hF := FB8
    have g1 : (addN ⟨[], []⟩ (bareN 1 0)).nodes.length = 1 := rfl
    have g2 : (addN ⟨[], []⟩ (bareN 1 0)).flows.length = 0 := rfl
    rw [g1] at h1
    rw [g2] at h2
    refine ⟨?_, ?_, graph_fine hp⟩
    · have e1 : (graphL ss).nodes.length = (drawnG ss).1.nodes.length + 1 := by unfold graphL; rw [addF_n, addF_n, addN_n]
      rw [e1]
      unfold drawnG
      omega
    · have e1 : (graphL ss).flows.length = (drawnG ss).1.flows.length + 2 := by unfold graphL; rw [addF_f, addF_f, addN_f]
      rw [e1]
      unfold drawnG
      omega
  · have e : graphR ss = ⟨[], []⟩ := if_neg hp
    rw [e]
    exact ⟨by simp, by simp, Fine.nil⟩
end Gr
end Go.Proofs.YtfgckeoigkoflaaGreatDoor
/- The text of a mark, as the law lays it. -/
namespace Go.Proofs.YtfgckeoigkoflaaGreatDoor
open Go.RowKit
set_option linter.unusedVariables false
namespace Mk
open Go.Lib (decDigits decDigits_one)
theorem hid {p : Prop} (h : p) : Hid p := h
theorem dec_big {n : Nat} (h : ¬ n < 10) : decDigits n = decDigits (n / 10) ++ [UInt8.ofNat (48 + n % 10)] := by rw [decDigits, dif_neg h]
def mt (k : Nat) : ByteArray := ⟨(109 :: decDigits k).toArray⟩
def dg (k : Nat) : UInt8 := UInt8.ofNat (48 + k % 10)
theorem dg_nat (j : Nat) : ((dg j).toNat : Int) = 48 + (j : Int) % 10 := by
  unfold dg
  have h : (48 + j % 10) < 256 := by omega
  rw [UInt8.toNat_ofNat', Nat.mod_eq_of_lt h]
  push_cast
  rfl
theorem conv1 (j : Nat) (w : World) : Sem.run Tryz.prog (convert 113 9 (.slice (some ⟨w.heap.size, 0, none⟩) 1 1)) (w.alloc (.cells #[.int .u8 (48 + (j : Int) % 10)] 5)) = .ok (.string ⟨[dg j].toArray⟩) (w.alloc (.cells #[.int .u8 (48 + (j : Int) % 10)] 5)) := by
  refine run_convert_bytes_back (P := Tryz.prog) _ 113 9 5 ⟨w.heap.size, 0, none⟩ 1 [dg j] Tryz.underlying113 Tryz.underlying5 Tryz.underlying9 ?_
  intro i hi
  obtain rfl : i = 0 := by simpa using hi
  simp [Addr.add, dg_nat]
theorem app_one (c : UInt8) (l : List UInt8) : Value.string (ByteArray.mk [c].toArray ++ ByteArray.mk l.toArray) = .string ⟨(c :: l).toArray⟩ := by
  apply congrArg Value.string; apply ByteArray.ext; simp
theorem next {K j : Nat} {l : List UInt8} (hj : 0 < j) (h : decDigits j ++ l = decDigits K) : (j / 10 = 0 ∧ dg j :: l = decDigits K) ∨ (0 < j / 10 ∧ decDigits (j / 10) ++ dg j :: l = decDigits K) := by
  by_cases h10 : j < 10
  · left
    refine ⟨by omega, ?_⟩
    rw [← h, decDigits_one h10]
    unfold dg
    rw [Nat.mod_eq_of_lt h10]
    rfl
  · right
    refine ⟨by omega, ?_⟩
    rw [← h, dec_big h10, List.append_assoc]
    rfl
set_option maxRecDepth 100000 in
set_option maxHeartbeats 2000000 in
theorem markText (k : Nat) (w : World) (h0 : 0 < k) (hk : k ≤ 35184372088832) : Calls Tryz.prog 24 #[.int .i64 k] w fun e w' => e = .returned (.string (mt k)) ∧ Below w.heap.size w w' := by
  have q0 : (0 : Int) < (k : Int) := by omega
  have q00 : k ≠ 0 := by omega
  go_enter Tryz.func24, Tryz.ntmps24
  go_wp2
  go_loopw [0, 3] (fun i o wr => ∃ (j : Nat) (l : List UInt8), i = .int .i64 j ∧ o = .string ⟨l.toArray⟩ ∧ l.length + j ≤ k ∧ Hid ((j = 0 ∧ l = decDigits k) ∨ (0 < j ∧ decDigits j ++ l = decDigits k)) ∧ Below w.heap.size w wr) (fun i _ _ => (intOf i).toNat)
  case atStart => exact ⟨k, [], rfl, rfl, by simp, hid (.inr ⟨h0, by rw [List.append_nil]⟩), Below.refl _ _⟩
  case round =>
    obtain ⟨j, l, rfl, rfl, hl, HD, hbel⟩ := hrel
    by_cases hj : 0 < j
    · have q1 : (0 : Int) < (j : Int) := by omega
      have HN : Hid ((j / 10 = 0 ∧ dg j :: l = decDigits k) ∨ (0 < j / 10 ∧ decDigits (j / 10) ++ dg j :: l = decDigits k)) := hid (by
        rcases HD.out with ⟨h, _⟩ | ⟨_, h⟩
        · omega
        · exact next hj h)
      go_wp2
      rw [conv1]
      simp only [Result.andThen]
      rw [Oper.upon_value]
      go_wp2
      exact ⟨⟨j / 10, dg j :: l, by simp, app_one _ _, by simp only [List.length_cons]; omega, HN, hbel.alloc hbel.size _⟩, by simp [intOf]; omega⟩
    · have q1 : ¬ (0 : Int) < (j : Int) := by omega
      have HL : Hid (l = decDigits k) := hid (by
        rcases HD.out with ⟨_, h⟩ | ⟨h, _⟩
        · exact h
        · omega)
      go_wp2
      go_ret
      refine ⟨?_, hbel⟩
      unfold mt
      rw [← HL.out]
      exact congrArg Ending.returned (app_one 109 l)
theorem markText' (k : Int) (w : World) (h0 : 0 < k) (hk : k ≤ 35184372088832) : Calls Tryz.prog 24 #[.int .i64 k] w fun e w' => e = .returned (.string (mt k.toNat)) ∧ Below w.heap.size w w' := by
  have h := markText k.toNat w (by omega) (by omega)
  rw [show ((k.toNat : Nat) : Int) = k by omega] at h
  exact h
end Mk
end Go.Proofs.YtfgckeoigkoflaaGreatDoor
