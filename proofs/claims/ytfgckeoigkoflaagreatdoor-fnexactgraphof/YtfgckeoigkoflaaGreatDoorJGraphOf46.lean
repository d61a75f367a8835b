/- The program's drawGuard, over what it draws of the kids. -/
import Derived.Test.YtfgckeoigkoflaaGreatDoorJGraphOf45
namespace Go.Proofs.YtfgckeoigkoflaaGreatDoor
open Go.RowKit
set_option linter.unusedVariables false
namespace Gr
open Ex (hid nvals at_of_owns owns_keep inR)
open Nd (NodeD)
open Gn (GNodeD)
open Fl (FlowD)
open St (StepD)
open Nst (own)
open Pf (PJ PJ_eq kidsL pFault PAt PCells KidsAt path)
open Pt (kidVals)
open Rc
/-- The graph so far, and what the call has. -/
structure GD (w wx : World) (D : Nat) (S S' : Nat → Prop) (u : Value) (gm : GraphD) (B R : Nat) (s9 z : Obj) : Prop where
  db : DB wx D S' u gm
  fr : Fr w wx D S S'
  bx : LB wx D S' B s9
  rs : LB wx D S' R z
section
variable {w wx w' : World} {D : Nat} {S S' S'' : Nat → Prop} {u : Value} {gm g' : GraphD} {B R : Nat} {s9 z : Obj}
theorem GD.turn (h : GD w wx D S S' u gm B R s9 z) (hG : DB w' D S'' u g') (hF : Fr wx w' D S' S'') : GD w w' D S S'' u g' B R s9 z := ⟨hG, h.fr.trans hF, h.bx.fr hF, h.rs.fr hF⟩
theorem GD.below (h : GD w wx D S S' u gm B R s9 z) (hb : Below wx.heap.size wx w') : GD w w' D S S' u gm B R s9 z := ⟨h.db.below hb, h.fr.below' hb, h.bx.below hb, h.rs.below hb⟩
/-- A block of another kind is turned. -/
theorem GD.set {c i : Nat} {cs : Array Value} {t : TypeId} {fr : Nat × Nat} (h : GD w wx D S S' u gm B R s9 z) (hc : LB wx D S' c (.cells cs t fr)) (h1 : t ≠ 96) (h2 : t ≠ 115) (hw : w.heap.size ≤ c) (hB : c ≠ B) (hR : c ≠ R) (v : Value) : GD w (wx.setCell ⟨c, i, none⟩ v) D S S' u gm B R s9 z :=
  ⟨h.db.set hc h1 h2 v, h.fr.set hw v, h.bx.other hB v, h.rs.other hR v⟩
end
theorem link_sub (fl : List FlowD) (x : FlowD) : fl.Sublist (linkL fl x) := by
  unfold linkL
  have h : (fl.take (pref x.src fl) ++ fl.drop (pref x.src fl)).Sublist (fl.take (pref x.src fl) ++ [x] ++ fl.drop (pref x.src fl)) := by
    rw [List.append_assoc]
    exact (List.Sublist.refl _).append (List.sublist_append_right _ _)
  rwa [List.take_append_drop] at h
theorem srt_ahead {fl : List FlowD} {x : FlowD} (h : Srt (linkL fl x)) : Srt fl := List.Pairwise.sublist (link_sub fl x) h
set_option maxRecDepth 100000 in
set_option maxHeartbeats 32000000 in
theorem drawGuard (ss : List StepD) (u : Value) (wp : World) (f : Nat) (he : Env ss u wp) (hDG : DG ss u wp f) (D : Nat) (S : Nat → Prop) (g : GraphD) (k k0 k1 : Nat) (hk : k < ss.length) (kv vc ve : Value) (w : World) (hwp : wp.heap.size + 1 ≤ D) (hb : Below wp.heap.size wp w) (h : DB w D S u g) (hg : Good g) (hp : PCells wp ss k hk kv vc ve) (hd : 8 ≤ f + 1 + deepG ss k) (hn : g.nodes.length + NB (f + 1) ≤ 1000000000000) (hfb : g.flows.length + FB (f + 1) ≤ 1000000000000) (hks : kidsL ss k = [k0, k1]) :
    Calls Tryz.prog 44 #[.pointer (some ⟨D, 0, none⟩), pstep ss k hk kv vc ve] w (SPost D S u (guardG (stepG ss f) ss g k) w) := by
  have hpf := he.pf
  have hl := he.len
  have hk0 := kid_mem (ss := ss) (k := k) (j := k0) (by rw [hks]; simp)
  have hk1 := kid_mem (ss := ss) (k := k) (j := k1) (by rw [hks]; simp)
  have hd0 := kid_deep hpf hk (j := k0) (by rw [hks]; simp)
  have hd1 := kid_deep hpf hk (j := k1) (by rw [hks]; simp)
  have hNB : NB (f + 1) = 3 + 24 * NB f := rfl
  have hFB : FB (f + 1) = 48 + 24 * FB f := rfl
  have FEW := step_few hl f
  have HARG : Hid ((PJ ss k).arg = ss[k].arg) := hid (by rw [PJ_eq hk])
  obtain ⟨gA, hgA⟩ : ∃ gA, gA = addN g ⟨11, (k : Int), ⟨#[]⟩, ss[k].arg, []⟩ := ⟨_, rfl⟩
  obtain ⟨q1, hq1⟩ : ∃ q, q = stepG ss f gA k0 := ⟨_, rfl⟩
  obtain ⟨gC, hgC⟩ : ∃ gC, gC = addN q1.1 (bareN 12 k) := ⟨_, rfl⟩
  obtain ⟨q2, hq2⟩ : ∃ q, q = stepG ss f gC k1 := ⟨_, rfl⟩
  obtain ⟨gD, hgD⟩ : ∃ gD, gD = addN q2.1 (bareN 13 k) := ⟨_, rfl⟩
  obtain ⟨gE, hgE⟩ : ∃ x, x = addF gD ⟨(g.nodes.length : Int), (q1.2.1 : Int), []⟩ := ⟨_, rfl⟩
  obtain ⟨gF, hgF⟩ : ∃ x, x = addF gE ⟨(g.nodes.length : Int), (q2.2.1 : Int), []⟩ := ⟨_, rfl⟩
  obtain ⟨gG, hgG⟩ : ∃ x, x = addF gF ⟨(q1.2.2 : Int), (q1.1.nodes.length : Int), []⟩ := ⟨_, rfl⟩
  obtain ⟨gH, hgH⟩ : ∃ x, x = addF gG ⟨(q1.1.nodes.length : Int), (q2.1.nodes.length : Int), []⟩ := ⟨_, rfl⟩
  obtain ⟨gI, hgI⟩ : ∃ x, x = addF gH ⟨(q2.2.2 : Int), (q2.1.nodes.length : Int), []⟩ := ⟨_, rfl⟩
  have hEQ : guardG (stepG ss f) ss g k = (gI, g.nodes.length, q2.1.nodes.length) := by
    rw [hgI, hgH, hgG, hgF, hgE, hgD, hq2, hgC, hq1, hgA]
    unfold guardG
    rw [hks, HARG.out]
    rfl
  have hOK : Ord g (guardG (stepG ss f) ss g k).1 (guardG (stepG ss f) ss g k).2.1 (guardG (stepG ss f) ss g k).2.2 := guard_ord hg (fun g hg m hm => by
    rw [gd hm]
    have e1 := kid_mem (List.getElem_mem hm)
    have e2 := kid_deep hpf hk (List.getElem_mem hm)
    exact step_ord hpf f g _ e1.1 (by omega) hg) (by rw [hks]; simp)
  rw [hEQ] at hOK
  have HEQ := hid hEQ
  have s5 : Srt (linkL gH.flows ⟨(q2.2.2 : Int), (q2.1.nodes.length : Int), []⟩) := by have := hOK.srt; rw [hgI] at this; exact this
  have s4 : Srt (linkL gG.flows ⟨(q1.1.nodes.length : Int), (q2.1.nodes.length : Int), []⟩) := by have := srt_ahead s5; rw [hgH] at this; exact this
  have s3 : Srt (linkL gF.flows ⟨(q1.2.2 : Int), (q1.1.nodes.length : Int), []⟩) := by have := srt_ahead s4; rw [hgG] at this; exact this
  have s2 : Srt (linkL gE.flows ⟨(g.nodes.length : Int), (q2.2.1 : Int), []⟩) := by have := srt_ahead s3; rw [hgF] at this; exact this
  have s1 : Srt (linkL gD.flows ⟨(g.nodes.length : Int), (q1.2.1 : Int), []⟩) := by have := srt_ahead s2; rw [hgE] at this; exact this
  have HSR := hid (And.intro s1 (And.intro s2 (And.intro s3 (And.intro s4 s5))))
  have hGA : Good gA := by rw [hgA]; exact hg.addN _
  have hO1 := step_ord hpf f gA k0 hk0.1 (by omega) hGA
  rw [← hq1] at hO1
  have hGC : Good gC := by rw [hgC]; exact (hO1.good hGA).addN _
  have hO2 := step_ord hpf f gC k1 hk1.1 (by omega) hGC
  rw [← hq2] at hO2
  have HGA := hid hGA
  have HGC := hid hGC
  have f1 := FEW gA k0
  have f2 := FEW gC k1
  rw [← hq1] at f1
  rw [← hq2] at f2
  have l1 : gA.nodes.length = g.nodes.length + 1 ∧ gA.flows.length = g.flows.length := by rw [hgA]; exact ⟨addN_n _ _, rfl⟩
  have l2 : gC.nodes.length = q1.1.nodes.length + 1 ∧ gC.flows.length = q1.1.flows.length := by rw [hgC]; exact ⟨addN_n _ _, rfl⟩
  have f1n := f1.n
  have f1f := f1.f
  have f2n := f2.n
  have f2f := f2.f
  have o1 := hO1.i
  have o2 := hO1.o2
  have o3 := hO2.i
  have o4 := hO2.o2
  have BN1 : Hid (g.nodes.length ≤ 1000000000000) := hid (by omega)
  have BS1 : Hid (gA.nodes.length + NB f ≤ 1000000000000 ∧ gA.flows.length + FB f ≤ 1000000000000) := hid (by omega)
  have BN2 : Hid (q1.1.nodes.length ≤ 1000000000000) := hid (by omega)
  have BS2 : Hid (gC.nodes.length + NB f ≤ 1000000000000 ∧ gC.flows.length + FB f ≤ 1000000000000) := hid (by omega)
  have BN3 : Hid (q2.1.nodes.length ≤ 1000000000000) := hid (by omega)
  have BI : Hid (g.nodes.length ≤ 100000000000000 ∧ q1.2.1 ≤ 100000000000000 ∧ q1.2.2 ≤ 100000000000000 ∧ q2.2.1 ≤ 100000000000000 ∧ q2.2.2 ≤ 100000000000000 ∧ q1.1.nodes.length ≤ 100000000000000 ∧ q2.1.nodes.length ≤ 100000000000000) := hid (by omega)
  obtain ⟨bk, ck, rfl, hbk, hck1, hck2, hkids⟩ := kids_at hp.kids (by rw [hks]; simp)
  obtain ⟨_, ⟨ac, cc, rfl⟩, ae, ce, rfl⟩ := pc_slices hp
  obtain ⟨gs, cu, rfl, hgs, _⟩ := step_at he.at' hb
  have h2 : (kidsL ss k).length = 2 := by rw [hks]; rfl
  have HHX : Hid (∀ (j i : Nat) (hi : i < 2) (hj : j < ss.length), j = [k0, k1][i] → ∃ a1 n1 c1 a2 n2 c2 a3 n3 c3, PCells wp ss j hj (.slice a1 n1 c1) (.slice a2 n2 c2) (.slice a3 n3 c3) ∧ ∀ wx, Below wp.heap.size wp wx → wx.cell? ⟨D, 0, none⟩ = some (.slice (some ⟨gs, 0, none⟩) ss.length cu) → wx.cell? ⟨w.heap.size, 2, none⟩ = some (.slice (some ⟨bk, 0, none⟩) 2 ck) → HD wx D w.heap.size bk i gs j (.slice (some ⟨gs, 0, none⟩) ss.length cu) (.slice (some ⟨bk, 0, none⟩) 2 ck) (.int .i64 (j : Int)) (.int .i64 ((path ss (j + 1)).length : Int)) (.slice a1 n1 c1) (.int .i64 (ss[j]'hj).kind) (.int .i64 (ss[j]'hj).parent) (.string (ss[j]'hj).name) (.int .i64 (ss[j]'hj).arg) (.slice a2 n2 c2) (.slice a3 n3 c3)) := hid (fun j i hi hj hji => by
    obtain ⟨g2, cu2, e2, hg2, hst⟩ := step_at (w := wp) he.at' (Below.refl _ _)
    obtain ⟨rfl, rfl⟩ : g2 = gs ∧ cu2 = cu := by simpa using e2.symm
    obtain ⟨kv2, vc2, ve2, hp2, c0, c1, c2, c3, c4, c5, c6, c7, c8⟩ := hst j hj
    obtain ⟨⟨a1, d1, rfl⟩, ⟨a2, d2, rfl⟩, a3, d3, rfl⟩ := pc_slices hp2
    refine ⟨a1, _, d1, a2, _, d2, a3, _, d3, hp2, fun wx hbx hd hb2 => ?_⟩
    have hkk : wp.cell? ⟨bk, i, none⟩ = some (.int .i64 (j : Int)) := by
      rw [hji]
      have := hkids i (by omega)
      simp only [hks] at this
      exact this
    exact ⟨hd, hb2, old_cell hbx hbk hkk, old_cell hbx hgs c0, old_cell hbx hgs c1, old_cell hbx hgs c2, old_cell hbx hgs c3, old_cell hbx hgs c4, old_cell hbx hgs c5, old_cell hbx hgs c6, old_cell hbx hgs c7, old_cell hbx hgs c8⟩)
  rw [h2] at hp hck1 ⊢
  have hb0 : Below w.heap.size w ((w.alloc (.cells #[.int .i64 (k : Int), .int .i64 ((path ss (k + 1)).length : Int), .slice (some ⟨bk, 0, none⟩) 2 ck, .int .i64 ss[k].kind, .int .i64 ss[k].parent, .string ss[k].name, .int .i64 ss[k].arg, .slice ac ss[k].cond.length cc, .slice ae ss[k].expr.length ce] 61)).alloc (.cells #[.pointer none, .pointer none] 63)) := ((Below.refl _ w).alloc (Nat.le_refl _) _).alloc (by simp) _
  have HGD : Hid (GD w ((w.alloc (.cells #[.int .i64 (k : Int), .int .i64 ((path ss (k + 1)).length : Int), .slice (some ⟨bk, 0, none⟩) 2 ck, .int .i64 ss[k].kind, .int .i64 ss[k].parent, .string ss[k].name, .int .i64 ss[k].arg, .slice ac ss[k].cond.length cc, .slice ae ss[k].expr.length ce] 61)).alloc (.cells #[.pointer none, .pointer none] 63)) D S S (.slice (some ⟨gs, 0, none⟩) ss.length cu) g w.heap.size (w.heap.size + 1) (.cells #[.int .i64 (k : Int), .int .i64 ((path ss (k + 1)).length : Int), .slice (some ⟨bk, 0, none⟩) 2 ck, .int .i64 ss[k].kind, .int .i64 ss[k].parent, .string ss[k].name, .int .i64 ss[k].arg, .slice ac ss[k].cond.length cc, .slice ae ss[k].expr.length ce] 61) (.cells #[.pointer none, .pointer none] 63)) := hid ⟨h.below hb0, Fr.of_below hb0, (h.new _).below ((Below.refl _ _).alloc (Nat.le_refl _) _), by
    have := (h.below ((Below.refl _ w).alloc (Nat.le_refl _) (.cells #[.int .i64 (k : Int), .int .i64 ((path ss (k + 1)).length : Int), .slice (some ⟨bk, 0, none⟩) 2 ck, .int .i64 ss[k].kind, .int .i64 ss[k].parent, .string ss[k].name, .int .i64 ss[k].arg, .slice ac ss[k].cond.length cc, .slice ae ss[k].expr.length ce] 61))).new (.cells #[.pointer none, .pointer none] 63)
    rw [World.size_alloc] at this
    exact this⟩
  have HBp := hid (hb.trans (hb0.mono hb.size))
  have HADD : Hid (∀ (S1 : Nat → Prop) (g1 : GraphD) (wx : World) (kd : Int), Below wp.heap.size wp wx → DB wx D S1 (.slice (some ⟨gs, 0, none⟩) ss.length cu) g1 → g1.nodes.length ≤ 1000000000000 → (kd = 7 ∨ kd = 8 ∨ kd = 9 ∨ kd = 10 ∨ kd = 12 ∨ kd = 13) → Calls Tryz.prog 18 #[.pointer (some ⟨D, 0, none⟩), .int .i64 kd, .agg #[.int .i64 (k : Int), .int .i64 ((path ss (k + 1)).length : Int), .slice (some ⟨bk, 0, none⟩) 2 ck, .int .i64 ss[k].kind, .int .i64 ss[k].parent, .string ss[k].name, .int .i64 ss[k].arg, .slice ac ss[k].cond.length cc, .slice ae ss[k].expr.length ce]] wx (NPost D S1 (.slice (some ⟨gs, 0, none⟩) ss.length cu) g1 (bareN kd k) wx)) := hid (fun S1 g1 wx kd hbx hDx hnx hkd => addAt ss _ wp he D S1 g1 k hk _ _ _ wx hwp hbx hDx hp hnx kd (bareN kd k) (.inr (.inr (.inr ⟨hkd, rfl⟩))))
  have HA1 : Hid (Calls Tryz.prog 18 #[.pointer (some ⟨D, 0, none⟩), .int .i64 11, .agg #[.int .i64 (k : Int), .int .i64 ((path ss (k + 1)).length : Int), .slice (some ⟨bk, 0, none⟩) 2 ck, .int .i64 ss[k].kind, .int .i64 ss[k].parent, .string ss[k].name, .int .i64 ss[k].arg, .slice ac ss[k].cond.length cc, .slice ae ss[k].expr.length ce]] ((w.alloc (.cells #[.int .i64 (k : Int), .int .i64 ((path ss (k + 1)).length : Int), .slice (some ⟨bk, 0, none⟩) 2 ck, .int .i64 ss[k].kind, .int .i64 ss[k].parent, .string ss[k].name, .int .i64 ss[k].arg, .slice ac ss[k].cond.length cc, .slice ae ss[k].expr.length ce] 61)).alloc (.cells #[.pointer none, .pointer none] 63)) (NPost D S (.slice (some ⟨gs, 0, none⟩) ss.length cu) g ⟨11, (k : Int), ⟨#[]⟩, ss[k].arg, []⟩ ((w.alloc (.cells #[.int .i64 (k : Int), .int .i64 ((path ss (k + 1)).length : Int), .slice (some ⟨bk, 0, none⟩) 2 ck, .int .i64 ss[k].kind, .int .i64 ss[k].parent, .string ss[k].name, .int .i64 ss[k].arg, .slice ac ss[k].cond.length cc, .slice ae ss[k].expr.length ce] 61)).alloc (.cells #[.pointer none, .pointer none] 63)))) := hid (addAt ss _ wp he D S g k hk _ _ _ _ hwp HBp.out HGD.out.db hp BN1.out 11 _ (.inr (.inl ⟨.inr (.inr rfl), rfl⟩)))
  have HDP : Hid (8 ≤ f + deepG ss k0 ∧ 8 ≤ f + deepG ss k1) := hid (by omega)
  have hSg := hid hDG
  have HBw := hid hb
  have HDw := hid h
  have HGAe := hid hgA
  have HGCe := hid hgC
  have HGDe := hid hgD
  have HGE := hid (And.intro hgE (And.intro hgF (And.intro hgG (And.intro hgH hgI))))
  have hD0 := h.lt
  clear h hp hb hb0 he hDG hg hNB hFB hn hfb hd hgE hgF hgG hgH hgI hEQ hOK s1 s2 s3 s4 s5 hGA hGC hO1 hO2 f1 f2 f1n f1f f2n f2f o1 o2 o3 o4 l1 l2 hgA hgC hgD HARG FEW hkids h2 hl
  unfold pstep
  unfold sval
  have b0 := HGD.out.bx.cell 0
  have b1 := HGD.out.bx.cell 1
  have b2 := HGD.out.bx.cell 2
  have b3 := HGD.out.bx.cell 3
  have b4 := HGD.out.bx.cell 4
  have b5 := HGD.out.bx.cell 5
  have b6 := HGD.out.bx.cell 6
  have b7 := HGD.out.bx.cell 7
  have b8 := HGD.out.bx.cell 8
  go_enter Tryz.func44, Tryz.ntmps44
  go_wp2_with fail
  refine HA1.out.mono ?_
  rintro e w1 ⟨en, S1, rfl, hG1, hF1, hp1⟩
  replace HGD : Hid (GD w w1 D S S1 (.slice (some ⟨gs, 0, none⟩) ss.length cu) gA w.heap.size (w.heap.size + 1) (.cells #[.int .i64 (k : Int), .int .i64 ((path ss (k + 1)).length : Int), .slice (some ⟨bk, 0, none⟩) 2 ck, .int .i64 ss[k].kind, .int .i64 ss[k].parent, .string ss[k].name, .int .i64 ss[k].arg, .slice ac ss[k].cond.length cc, .slice ae ss[k].expr.length ce] 61) (.cells #[.pointer none, .pointer none] 63)) := hid (HGD.out.turn (by rw [HGAe.out]; exact hG1) hF1)
  have HEN := hid hp1
  clear hG1 hF1 hp1 HA1 b0 b1 b2 b3 b4 b5 b6 b7 b8 HBp
  have hjx : k0 < ss.length := hk0.1
  obtain ⟨j, hjq⟩ : ∃ j, j = k0 := ⟨_, rfl⟩
  have hj : j < ss.length := by rw [hjq]; exact hjx
  obtain ⟨a1, n1, c1, a2, n2, c2, a3, n3, c3, hpj, hHD⟩ := HHX.out j 0 (by omega) hj (by rw [hjq]; rfl)
  have HHD := hid hHD
  have HSF0 : Hid (∀ wx, Below wp.heap.size wp wx → DB wx D S1 (.slice (some ⟨gs, 0, none⟩) ss.length cu) gA → Calls Tryz.prog 19 #[.pointer (some ⟨D, 0, none⟩), .agg #[.int .i64 (j : Int), .int .i64 ((path ss (j + 1)).length : Int), .slice a1 n1 c1, .int .i64 (ss[j]'hj).kind, .int .i64 (ss[j]'hj).parent, .string (ss[j]'hj).name, .int .i64 (ss[j]'hj).arg, .slice a2 n2 c2, .slice a3 n3 c3]] wx (SPost D S1 (.slice (some ⟨gs, 0, none⟩) ss.length cu) q1 wx)) := hid (fun wx hbx hDx => by
    rw [hq1, ← hjq]
    exact hSg.out D S1 gA j hj _ _ _ _ hwp hbx hDx HGA.out hpj (by rw [hjq]; exact HDP.out.1) BS1.out.1 BS1.out.2)
  have hj' : (j : Int) < (ss.length : Int) := by omega
  have hhd := HHD.out w1.drew ((HGD.out.fr.env HBw.out HDw.out hwp).drew) (HGD.out.below ((Below.refl _ _).drew)).db.u ((HGD.out.below ((Below.refl _ _).drew)).bx.cell 2)
  clear hpj hHD hjq hjx
  go_wp2_with fail
  go_cut [6] from 10 (fun sx wx => ∃ b p q S', sx = .pointer (some ⟨b, 0, none⟩) ∧ Hid (GD w wx D S S' (.slice (some ⟨gs, 0, none⟩) ss.length cu) q1.1 w.heap.size (w.heap.size + 1) (.cells #[.int .i64 (k : Int), .int .i64 ((path ss (k + 1)).length : Int), .slice (some ⟨bk, 0, none⟩) 2 ck, .int .i64 ss[k].kind, .int .i64 ss[k].parent, .string ss[k].name, .int .i64 ss[k].arg, .slice ac ss[k].cond.length cc, .slice ae ss[k].expr.length ce] 61) (.cells #[.pointer none, .pointer none] 63) ∧ LB wx D S' b (.cells #[.pointer (some ⟨p, 0, none⟩), .pointer (some ⟨q, 0, none⟩)] 63) ∧ PtN wx D p q1.2.1 ∧ PtN wx D q q1.2.2 ∧ w.heap.size + 1 < b ∧ PtN wx D en g.nodes.length))
  case first =>
    refine wp_region_held_drew (S := fun wx => HD wx D w.heap.size bk 0 gs j (.slice (some ⟨gs, 0, none⟩) ss.length cu) (.slice (some ⟨bk, 0, none⟩) 2 ck) (.int .i64 (j : Int)) (.int .i64 ((path ss (j + 1)).length : Int)) (.slice a1 n1 c1) (.int .i64 (ss[j]'hj).kind) (.int .i64 (ss[j]'hj).parent) (.string (ss[j]'hj).name) (.int .i64 (ss[j]'hj).arg) (.slice a2 n2 c2) (.slice a3 n3 c3)) (by kernel_rfl) hhd (fun hHeld => ?_)
    refine wpAnyH_take (i := 0) (oi := { dst := some 13, op := Go.Op.move (Go.Operand.tmp 0), type := 90, pos := "l06_graph.go:210", after := #[], guard := none }) (v := .pointer (some ⟨D, 0, none⟩)) rfl (by kernel_rfl) (by kernel_rfl) (by kernel_rfl) (fun _ _ _ h => h) (Or.inl ⟨by rfl, by intro w hSw; (try dsimp only at hSw); obtain ⟨s0, s1, s2, t0, t1, t2, t3, t4, t5, t6, t7, t8⟩ := hSw; go_simp⟩) (by assumption) ?_
    simp only [Act.put, List.setIfInBounds_toArray, List.set_cons_zero, List.set_cons_succ]
    refine wpAnyH_take (i := 1) (oi := { dst := some 14, op := Go.Op.move (Go.Operand.tmp 0), type := 90, pos := "l06_graph.go:210", after := #[], guard := none }) (v := .pointer (some ⟨D, 0, none⟩)) rfl (by kernel_rfl) (by kernel_rfl) (by kernel_rfl) (fun _ _ _ h => h) (Or.inl ⟨by rfl, by intro w hSw; (try dsimp only at hSw); obtain ⟨s0, s1, s2, t0, t1, t2, t3, t4, t5, t6, t7, t8⟩ := hSw; go_simp⟩) (by assumption) ?_
    simp only [Act.put, List.setIfInBounds_toArray, List.set_cons_zero, List.set_cons_succ]
    refine wpAnyH_take (i := 2) (oi := { dst := some 15, op := Go.Op.nilCheck (Go.Operand.tmp 14), type := 0, pos := "l06_graph.go:210", after := #[{ on := 1, ground := Go.Ground.data }], guard := none }) (v := .pointer (some ⟨D, 0, none⟩)) rfl (by kernel_rfl) (by kernel_rfl) (by kernel_rfl) (fun _ _ _ h => h) (Or.inl ⟨by rfl, by intro w hSw; (try dsimp only at hSw); obtain ⟨s0, s1, s2, t0, t1, t2, t3, t4, t5, t6, t7, t8⟩ := hSw; go_simp⟩) (by assumption) ?_
    simp only [Act.put, List.setIfInBounds_toArray, List.set_cons_zero, List.set_cons_succ]
    refine wpAnyH_take (i := 3) (oi := { dst := some 16, op := Go.Op.fieldAddr 54 (Go.Operand.tmp 15) 0, type := 0, pos := "l06_graph.go:210", after := #[{ on := 2, ground := Go.Ground.data }], guard := none }) (v := .pointer (some ⟨D, 0, none⟩)) rfl (by kernel_rfl) (by kernel_rfl) (by kernel_rfl) (fun _ _ _ h => h) (Or.inl ⟨by rfl, by intro w hSw; (try dsimp only at hSw); obtain ⟨s0, s1, s2, t0, t1, t2, t3, t4, t5, t6, t7, t8⟩ := hSw; go_simp⟩) (by assumption) ?_
    simp only [Act.put, List.setIfInBounds_toArray, List.set_cons_zero, List.set_cons_succ]
    refine wpAnyH_take (i := 4) (oi := { dst := some 17, op := Go.Op.load 48 (Go.Operand.tmp 16), type := 48, pos := "l06_graph.go:210", after := #[{ on := 3, ground := Go.Ground.data }], guard := none }) (v := .slice (some ⟨gs, 0, none⟩) ss.length cu) rfl (by kernel_rfl) (by kernel_rfl) (by kernel_rfl) (fun _ _ _ h => h) (Or.inl ⟨by rfl, by intro w hSw; (try dsimp only at hSw); obtain ⟨s0, s1, s2, t0, t1, t2, t3, t4, t5, t6, t7, t8⟩ := hSw; go_simp⟩) (by assumption) ?_
    simp only [Act.put, List.setIfInBounds_toArray, List.set_cons_zero, List.set_cons_succ]
    refine wpAnyH_take (i := 5) (oi := { dst := some 18, op := Go.Op.fieldAddr 61 (Go.Operand.tmp 3) 0, type := 0, pos := "l06_graph.go:210", after := #[], guard := none }) (v := .pointer (some ⟨w.heap.size, 0, none⟩)) rfl (by kernel_rfl) (by kernel_rfl) (by kernel_rfl) (fun _ _ _ h => h) (Or.inl ⟨by rfl, by intro w hSw; (try dsimp only at hSw); obtain ⟨s0, s1, s2, t0, t1, t2, t3, t4, t5, t6, t7, t8⟩ := hSw; go_simp⟩) (by assumption) ?_
    simp only [Act.put, List.setIfInBounds_toArray, List.set_cons_zero, List.set_cons_succ]
    refine wpAnyH_take (i := 6) (oi := { dst := some 19, op := Go.Op.fieldAddr 59 (Go.Operand.tmp 18) 2, type := 0, pos := "l06_graph.go:210", after := #[{ on := 5, ground := Go.Ground.data }], guard := none }) (v := .pointer (some ⟨w.heap.size, 2, none⟩)) rfl (by kernel_rfl) (by kernel_rfl) (by kernel_rfl) (fun _ _ _ h => h) (Or.inl ⟨by rfl, by intro w hSw; (try dsimp only at hSw); obtain ⟨s0, s1, s2, t0, t1, t2, t3, t4, t5, t6, t7, t8⟩ := hSw; go_simp⟩) (by assumption) ?_
    simp only [Act.put, List.setIfInBounds_toArray, List.set_cons_zero, List.set_cons_succ]
    refine wpAnyH_take (i := 7) (oi := { dst := some 20, op := Go.Op.load 57 (Go.Operand.tmp 19), type := 57, pos := "l06_graph.go:210", after := #[{ on := 6, ground := Go.Ground.data }], guard := none }) (v := .slice (some ⟨bk, 0, none⟩) 2 ck) rfl (by kernel_rfl) (by kernel_rfl) (by kernel_rfl) (fun _ _ _ h => h) (Or.inl ⟨by rfl, by intro w hSw; (try dsimp only at hSw); obtain ⟨s0, s1, s2, t0, t1, t2, t3, t4, t5, t6, t7, t8⟩ := hSw; go_simp⟩) (by assumption) ?_
    simp only [Act.put, List.setIfInBounds_toArray, List.set_cons_zero, List.set_cons_succ]
    refine wpAnyH_take (i := 8) (oi := { dst := some 21, op := Go.Op.indexAddr 57 (Go.Operand.tmp 20) (Go.Operand.const (Go.Value.int Go.IntKind.i64 0)), type := 0, pos := "l06_graph.go:210", after := #[{ on := 7, ground := Go.Ground.data }], guard := none }) (v := .pointer (some ⟨bk, 0, none⟩)) rfl (by kernel_rfl) (by kernel_rfl) (by kernel_rfl) (fun _ _ _ h => h) (Or.inl ⟨by rfl, by intro w hSw; (try dsimp only at hSw); obtain ⟨s0, s1, s2, t0, t1, t2, t3, t4, t5, t6, t7, t8⟩ := hSw; go_simp⟩) (by assumption) ?_
    simp only [Act.put, List.setIfInBounds_toArray, List.set_cons_zero, List.set_cons_succ]
    refine wpAnyH_take (i := 9) (oi := { dst := some 22, op := Go.Op.load 2 (Go.Operand.tmp 21), type := 2, pos := "l06_graph.go:210", after := #[{ on := 8, ground := Go.Ground.data }], guard := none }) (v := .int .i64 (j : Int)) rfl (by kernel_rfl) (by kernel_rfl) (by kernel_rfl) (fun _ _ _ h => h) (Or.inl ⟨by rfl, by intro w hSw; (try dsimp only at hSw); obtain ⟨s0, s1, s2, t0, t1, t2, t3, t4, t5, t6, t7, t8⟩ := hSw; go_simp⟩) (by assumption) ?_
    simp only [Act.put, List.setIfInBounds_toArray, List.set_cons_zero, List.set_cons_succ]
    refine wpAnyH_take (i := 10) (oi := { dst := some 23, op := Go.Op.indexAddr 48 (Go.Operand.tmp 17) (Go.Operand.tmp 22), type := 0, pos := "l06_graph.go:210", after := #[{ on := 4, ground := Go.Ground.data }, { on := 9, ground := Go.Ground.data }], guard := none }) (v := .pointer (some ⟨gs, j * 9, none⟩)) rfl (by kernel_rfl) (by kernel_rfl) (by kernel_rfl) (fun _ _ _ h => h) (Or.inl ⟨by rfl, by intro w hSw; (try dsimp only at hSw); obtain ⟨s0, s1, s2, t0, t1, t2, t3, t4, t5, t6, t7, t8⟩ := hSw; go_simp⟩) (by assumption) ?_
    simp only [Act.put, List.setIfInBounds_toArray, List.set_cons_zero, List.set_cons_succ]
    refine wpAnyH_take (i := 11) (oi := { dst := some 24, op := Go.Op.load 61 (Go.Operand.tmp 23), type := 61, pos := "l06_graph.go:210", after := #[{ on := 10, ground := Go.Ground.data }], guard := none }) (v := .agg #[.int .i64 (j : Int), .int .i64 ((path ss (j + 1)).length : Int), .slice a1 n1 c1, .int .i64 (ss[j]'hj).kind, .int .i64 (ss[j]'hj).parent, .string (ss[j]'hj).name, .int .i64 (ss[j]'hj).arg, .slice a2 n2 c2, .slice a3 n3 c3]) rfl (by kernel_rfl) (by kernel_rfl) (by kernel_rfl) (fun _ _ _ h => h) (Or.inl ⟨by rfl, by intro w hSw; (try dsimp only at hSw); obtain ⟨s0, s1, s2, t0, t1, t2, t3, t4, t5, t6, t7, t8⟩ := hSw; go_simp⟩) (by assumption) ?_
    simp only [Act.put, List.setIfInBounds_toArray, List.set_cons_zero, List.set_cons_succ]
    refine wpAnyH_ready (rs := [12, 13]) (by kernel_rfl) (by simp) ?_
    refine (AllReadyH.cons (o := { dst := some 25, op := Go.Op.call { callee := Go.Callee.value (Go.Operand.func 19), args := #[Go.Operand.tmp 13, Go.Operand.tmp 24], argTypes := #[90, 61] }, type := 63, pos := "l06_graph.go:210", after := #[{ on := 0, ground := Go.Ground.data }, { on := 11, ground := Go.Ground.data }], guard := none }) rfl (fun K hK => ?_) (AllReadyH.cons (o := { dst := some 6, op := Go.Op.alloc 63, type := 0, pos := "l06_graph.go:210", after := #[], guard := none }) rfl (fun K hK => ?_) AllReadyH.nil))
    · replace HGD := hid (HGD.out.below ((Below.refl _ _).drew))
      replace HEN := hid (HEN.out.below ((Below.refl _ _).drew))
      go_simp
      go_at_call 19
      refine (HSF0.out _ (HGD.out.fr.env HBw.out HDw.out hwp) HGD.out.db).mono ?_
      rintro e w3 ⟨p, q, S3, rfl, hG3, hF3, hp3, hq3⟩
      replace HEN := hid (HEN.out.fr HGD.out.db hF3)
      replace HGD := hid (HGD.out.turn hG3 hF3)
      have HP3 := hid hp3
      have HQ3 := hid hq3
      have hhd3 := HHD.out w3 (HGD.out.fr.env HBw.out HDw.out hwp) HGD.out.db.u (HGD.out.bx.cell 2)
      have hz3 : w.heap.size + 1 < w3.heap.size := HGD.out.rs.lt
      clear hG3 hF3 hp3 hq3
      go_wp2_with fail
      refine hK.out _ _ hhd3 (fun hHeld => ?_)
      clear hK K
      try simp only [Act.put, List.setIfInBounds_toArray, List.set_cons_zero, List.set_cons_succ]
      refine wpAnyH_ready (rs := [13]) (by kernel_rfl) (by simp) ?_
      refine (AllReadyH.cons (o := { dst := some 6, op := Go.Op.alloc 63, type := 0, pos := "l06_graph.go:210", after := #[], guard := none }) rfl (fun K hK => ?_) AllReadyH.nil)
      go_simp
      have hal : ∀ o, Below w3.heap.size w3 (w3.alloc o) := fun o => (Below.refl _ w3).alloc (Nat.le_refl _) o
      have hN4 := HGD.out.db.new (.cells #[.pointer none, .pointer none] 63)
      have hhd4 : ∀ o, HD (w3.alloc o) D w.heap.size bk 0 gs j (.slice (some ⟨gs, 0, none⟩) ss.length cu) (.slice (some ⟨bk, 0, none⟩) 2 ck) (.int .i64 (j : Int)) (.int .i64 ((path ss (j + 1)).length : Int)) (.slice a1 n1 c1) (.int .i64 (ss[j]'hj).kind) (.int .i64 (ss[j]'hj).parent) (.string (ss[j]'hj).name) (.int .i64 (ss[j]'hj).arg) (.slice a2 n2 c2) (.slice a3 n3 c3) := fun o => HHD.out (w3.alloc o) ((HGD.out.below (hal o)).fr.env HBw.out HDw.out hwp) (HGD.out.below (hal o)).db.u ((HGD.out.below (hal o)).bx.cell 2)
      refine hK.out _ _ (hhd4 _) (fun hHeld => ?_)
      clear hK K
      try simp only [Act.put, List.setIfInBounds_toArray, List.set_cons_zero, List.set_cons_succ]
      have z0 := hN4.cell 0
      have z1 := hN4.cell 1
      have y0 := hN4.free 0
      have y1 := hN4.free 1
      refine wpAnyH_ready (rs := [14]) (by kernel_rfl) (by simp) ?_
      refine (AllReadyH.cons (o := { dst := none, op := Go.Op.store 63 (Go.Operand.tmp 6) (Go.Operand.tmp 25), type := 0, pos := "l06_graph.go:210", after := #[{ on := 13, ground := Go.Ground.data }, { on := 12, ground := Go.Ground.data }, { on := 12, ground := Go.Ground.chain }, { on := 0, ground := Go.Ground.phase }, { on := 1, ground := Go.Ground.phase }, { on := 2, ground := Go.Ground.phase }, { on := 3, ground := Go.Ground.phase }, { on := 4, ground := Go.Ground.phase }, { on := 5, ground := Go.Ground.phase }, { on := 6, ground := Go.Ground.phase }, { on := 7, ground := Go.Ground.phase }, { on := 8, ground := Go.Ground.phase }, { on := 9, ground := Go.Ground.phase }, { on := 10, ground := Go.Ground.phase }, { on := 11, ground := Go.Ground.phase }, { on := 12, ground := Go.Ground.phase }, { on := 13, ground := Go.Ground.phase }], guard := none }) rfl (fun K hK => ?_) AllReadyH.nil)
      go_simp
      refine hK.out _ _ (hhd4 _) (fun hHeld => ?_)
      clear hK K
      try simp only [Act.put]
      refine wpAnyH_done (by kernel_rfl) ?_ _
      go_wp2_with fail
      go_meet
      exact ⟨_, p, q, S3, rfl, hid ⟨HGD.out.below (hal _), HGD.out.db.new _, HP3.out.below (hal _), HQ3.out.below (hal _), (by omega), HEN.out.below (hal _)⟩⟩
    · go_simp
      have hbA : Below w1.heap.size w1 (w1.alloc (.cells #[.pointer none, .pointer none] 63)).drew := ((Below.refl _ _).alloc (Nat.le_refl _) _).drew
      have HNA := hid ((HGD.out.db.new (.cells #[.pointer none, .pointer none] 63)).below ((Below.refl _ _).drew))
      have hzA : w.heap.size + 1 < w1.heap.size := HGD.out.rs.lt
      replace HGD := hid (HGD.out.below hbA)
      replace HEN := hid (HEN.out.below hbA)
      have hhdA := HHD.out _ (HGD.out.fr.env HBw.out HDw.out hwp) HGD.out.db.u (HGD.out.bx.cell 2)
      obtain ⟨bA, hbAe⟩ : ∃ bA, bA = w1.heap.size := ⟨_, rfl⟩
      rw [← hbAe] at HNA hzA
      rw [← hbAe]
      clear hbA hbAe
      generalize (w1.alloc (.cells #[.pointer none, .pointer none] 63)).drew = wA at *
      refine hK.out _ _ hhdA (fun hHeld => ?_)
      clear hK K
      try simp only [Act.put, List.setIfInBounds_toArray, List.set_cons_zero, List.set_cons_succ]
      refine wpAnyH_ready (rs := [12]) (by kernel_rfl) (by simp) ?_
      refine (AllReadyH.cons (o := { dst := some 25, op := Go.Op.call { callee := Go.Callee.value (Go.Operand.func 19), args := #[Go.Operand.tmp 13, Go.Operand.tmp 24], argTypes := #[90, 61] }, type := 63, pos := "l06_graph.go:210", after := #[{ on := 0, ground := Go.Ground.data }, { on := 11, ground := Go.Ground.data }], guard := none }) rfl (fun K hK => ?_) AllReadyH.nil)
      go_simp
      go_at_call 19
      refine (HSF0.out _ (HGD.out.fr.env HBw.out HDw.out hwp) HGD.out.db).mono ?_
      rintro e w3 ⟨p, q, S3, rfl, hG3, hF3, hp3, hq3⟩
      replace HEN := hid (HEN.out.fr HGD.out.db hF3)
      replace HNA := hid (HNA.out.fr hF3)
      replace HGD := hid (HGD.out.turn hG3 hF3)
      have HP3 := hid hp3
      have HQ3 := hid hq3
      have hhd3 := HHD.out w3 (HGD.out.fr.env HBw.out HDw.out hwp) HGD.out.db.u (HGD.out.bx.cell 2)
      have hz3 : w.heap.size + 1 < w3.heap.size := HGD.out.rs.lt
      clear hG3 hF3 hp3 hq3
      go_wp2_with fail
      refine hK.out _ _ hhd3 (fun hHeld => ?_)
      clear hK K
      try simp only [Act.put, List.setIfInBounds_toArray, List.set_cons_zero, List.set_cons_succ]
      have hM := HNA.out.set (i := 0) (.pointer (some ⟨p, 0, none⟩))
      have hM2 := hM.set (i := 1) (.pointer (some ⟨q, 0, none⟩))
      have hD5 := (HGD.out.set HNA.out (i := 0) (by decide) (by decide) (by omega) (by omega) (by omega) (.pointer (some ⟨p, 0, none⟩))).set hM (i := 1) (by decide) (by decide) (by omega) (by omega) (by omega) (.pointer (some ⟨q, 0, none⟩))
      have hhd5 := HHD.out _ (hD5.fr.env HBw.out HDw.out hwp) hD5.db.u (hD5.bx.cell 2)
      have z0 := HNA.out.cell 0
      have z1 := HNA.out.cell 1
      have y0 := HNA.out.free 0
      have y1 := HNA.out.free 1
      refine wpAnyH_ready (rs := [14]) (by kernel_rfl) (by simp) ?_
      refine (AllReadyH.cons (o := { dst := none, op := Go.Op.store 63 (Go.Operand.tmp 6) (Go.Operand.tmp 25), type := 0, pos := "l06_graph.go:210", after := #[{ on := 13, ground := Go.Ground.data }, { on := 12, ground := Go.Ground.data }, { on := 12, ground := Go.Ground.chain }, { on := 0, ground := Go.Ground.phase }, { on := 1, ground := Go.Ground.phase }, { on := 2, ground := Go.Ground.phase }, { on := 3, ground := Go.Ground.phase }, { on := 4, ground := Go.Ground.phase }, { on := 5, ground := Go.Ground.phase }, { on := 6, ground := Go.Ground.phase }, { on := 7, ground := Go.Ground.phase }, { on := 8, ground := Go.Ground.phase }, { on := 9, ground := Go.Ground.phase }, { on := 10, ground := Go.Ground.phase }, { on := 11, ground := Go.Ground.phase }, { on := 12, ground := Go.Ground.phase }, { on := 13, ground := Go.Ground.phase }], guard := none }) rfl (fun K hK => ?_) AllReadyH.nil)
      go_simp
      refine hK.out _ _ hhd5 (fun hHeld => ?_)
      clear hK K
      try simp only [Act.put]
      refine wpAnyH_done (by kernel_rfl) ?_ _
      go_wp2_with fail
      go_meet
      exact ⟨_, p, q, S3, rfl, hid ⟨hD5, hM2, (HP3.out.set HNA.out (by decide) _).set hM (by decide) _, (HQ3.out.set HNA.out (by decide) _).set hM (by decide) _, (by omega), (HEN.out.set HNA.out (by decide) _).set hM (by decide) _⟩⟩
  case rest =>
    obtain ⟨ba, pa, qa, S3, rfl, HR3⟩ := hcut
    obtain ⟨hR3, hW3, hP3, hQ3, hb3, hE3⟩ := HR3.out
    replace HGD := hid hR3
    have HW1 := hid hW3
    have HP1 := hid hP3
    have HQ1 := hid hQ3
    replace HEN := hid hE3
    have hba := hb3
    clear HR3 hR3 hW3 hP3 hQ3 hb3 hE3 HHD hhd HSF0 hj hj'
    have HA2 := hid (HADD.out S3 q1.1 wc 12 (HGD.out.fr.env HBw.out HDw.out hwp) HGD.out.db BN2.out (by omega))
    have b0 := HGD.out.bx.cell 0
    have b1 := HGD.out.bx.cell 1
    have b2 := HGD.out.bx.cell 2
    have b3 := HGD.out.bx.cell 3
    have b4 := HGD.out.bx.cell 4
    have b5 := HGD.out.bx.cell 5
    have b6 := HGD.out.bx.cell 6
    have b7 := HGD.out.bx.cell 7
    have b8 := HGD.out.bx.cell 8
    have hzb := HGD.out.bx.lt
    go_wp2_with fail
    refine HA2.out.mono ?_
    rintro e w4 ⟨cl, S4, rfl, hG4, hF4, hp4⟩
    have HCL := hid hp4
    replace HEN := hid (HEN.out.fr HGD.out.db hF4)
    replace HP1 := hid (HP1.out.fr HGD.out.db hF4)
    replace HQ1 := hid (HQ1.out.fr HGD.out.db hF4)
    replace HW1 := hid (HW1.out.fr hF4)
    replace HGD : Hid (GD w w4 D S S4 (.slice (some ⟨gs, 0, none⟩) ss.length cu) gC w.heap.size (w.heap.size + 1) (.cells #[.int .i64 (k : Int), .int .i64 ((path ss (k + 1)).length : Int), .slice (some ⟨bk, 0, none⟩) 2 ck, .int .i64 ss[k].kind, .int .i64 ss[k].parent, .string ss[k].name, .int .i64 ss[k].arg, .slice ac ss[k].cond.length cc, .slice ae ss[k].expr.length ce] 61) (.cells #[.pointer none, .pointer none] 63)) := hid (HGD.out.turn (by rw [HGCe.out]; exact hG4) hF4)
    clear hG4 hF4 hp4 HA2 b0 b1 b2 b3 b4 b5 b6 b7 b8 hzb
    have hjx : k1 < ss.length := hk1.1
    obtain ⟨j, hjq⟩ : ∃ j, j = k1 := ⟨_, rfl⟩
    have hj : j < ss.length := by rw [hjq]; exact hjx
    obtain ⟨a1, n1, c1, a2, n2, c2, a3, n3, c3, hpj, hHD⟩ := HHX.out j 1 (by omega) hj (by rw [hjq]; rfl)
    have HHD := hid hHD
    have HSF1 : Hid (∀ wx, Below wp.heap.size wp wx → DB wx D S4 (.slice (some ⟨gs, 0, none⟩) ss.length cu) gC → Calls Tryz.prog 19 #[.pointer (some ⟨D, 0, none⟩), .agg #[.int .i64 (j : Int), .int .i64 ((path ss (j + 1)).length : Int), .slice a1 n1 c1, .int .i64 (ss[j]'hj).kind, .int .i64 (ss[j]'hj).parent, .string (ss[j]'hj).name, .int .i64 (ss[j]'hj).arg, .slice a2 n2 c2, .slice a3 n3 c3]] wx (SPost D S4 (.slice (some ⟨gs, 0, none⟩) ss.length cu) q2 wx)) := hid (fun wx hbx hDx => by
      rw [hq2, ← hjq]
      exact hSg.out D S4 gC j hj _ _ _ _ hwp hbx hDx HGC.out hpj (by rw [hjq]; exact HDP.out.2) BS2.out.1 BS2.out.2)
    have hj' : (j : Int) < (ss.length : Int) := by omega
    have hhd := HHD.out w4.drew ((HGD.out.fr.env HBw.out HDw.out hwp).drew) (HGD.out.below ((Below.refl _ _).drew)).db.u ((HGD.out.below ((Below.refl _ _).drew)).bx.cell 2)
    clear hpj hHD hjq hjx
    go_wp2_with fail
    go_cut [8] from 10 (fun sx wx => ∃ b p q S', sx = .pointer (some ⟨b, 0, none⟩) ∧ Hid (GD w wx D S S' (.slice (some ⟨gs, 0, none⟩) ss.length cu) q2.1 w.heap.size (w.heap.size + 1) (.cells #[.int .i64 (k : Int), .int .i64 ((path ss (k + 1)).length : Int), .slice (some ⟨bk, 0, none⟩) 2 ck, .int .i64 ss[k].kind, .int .i64 ss[k].parent, .string ss[k].name, .int .i64 ss[k].arg, .slice ac ss[k].cond.length cc, .slice ae ss[k].expr.length ce] 61) (.cells #[.pointer none, .pointer none] 63) ∧ LB wx D S' b (.cells #[.pointer (some ⟨p, 0, none⟩), .pointer (some ⟨q, 0, none⟩)] 63) ∧ PtN wx D p q2.2.1 ∧ PtN wx D q q2.2.2 ∧ w.heap.size + 1 < b ∧ PtN wx D en g.nodes.length ∧ PtN wx D cl q1.1.nodes.length ∧ PtN wx D pa q1.2.1 ∧ PtN wx D qa q1.2.2 ∧ LB wx D S' ba (.cells #[.pointer (some ⟨pa, 0, none⟩), .pointer (some ⟨qa, 0, none⟩)] 63)))
    case first =>
      refine wp_region_held_drew (S := fun wx => HD wx D w.heap.size bk 1 gs j (.slice (some ⟨gs, 0, none⟩) ss.length cu) (.slice (some ⟨bk, 0, none⟩) 2 ck) (.int .i64 (j : Int)) (.int .i64 ((path ss (j + 1)).length : Int)) (.slice a1 n1 c1) (.int .i64 (ss[j]'hj).kind) (.int .i64 (ss[j]'hj).parent) (.string (ss[j]'hj).name) (.int .i64 (ss[j]'hj).arg) (.slice a2 n2 c2) (.slice a3 n3 c3)) (by kernel_rfl) hhd (fun hHeld => ?_)
      refine wpAnyH_take (i := 0) (oi := { dst := some 29, op := Go.Op.move (Go.Operand.tmp 0), type := 90, pos := "l06_graph.go:212", after := #[], guard := none }) (v := .pointer (some ⟨D, 0, none⟩)) rfl (by kernel_rfl) (by kernel_rfl) (by kernel_rfl) (fun _ _ _ h => h) (Or.inl ⟨by rfl, by intro w hSw; (try dsimp only at hSw); obtain ⟨s0, s1, s2, t0, t1, t2, t3, t4, t5, t6, t7, t8⟩ := hSw; go_simp⟩) (by assumption) ?_
      simp only [Act.put, List.setIfInBounds_toArray, List.set_cons_zero, List.set_cons_succ]
      refine wpAnyH_take (i := 1) (oi := { dst := some 30, op := Go.Op.move (Go.Operand.tmp 0), type := 90, pos := "l06_graph.go:212", after := #[], guard := none }) (v := .pointer (some ⟨D, 0, none⟩)) rfl (by kernel_rfl) (by kernel_rfl) (by kernel_rfl) (fun _ _ _ h => h) (Or.inl ⟨by rfl, by intro w hSw; (try dsimp only at hSw); obtain ⟨s0, s1, s2, t0, t1, t2, t3, t4, t5, t6, t7, t8⟩ := hSw; go_simp⟩) (by assumption) ?_
      simp only [Act.put, List.setIfInBounds_toArray, List.set_cons_zero, List.set_cons_succ]
      refine wpAnyH_take (i := 2) (oi := { dst := some 31, op := Go.Op.nilCheck (Go.Operand.tmp 30), type := 0, pos := "l06_graph.go:212", after := #[{ on := 1, ground := Go.Ground.data }], guard := none }) (v := .pointer (some ⟨D, 0, none⟩)) rfl (by kernel_rfl) (by kernel_rfl) (by kernel_rfl) (fun _ _ _ h => h) (Or.inl ⟨by rfl, by intro w hSw; (try dsimp only at hSw); obtain ⟨s0, s1, s2, t0, t1, t2, t3, t4, t5, t6, t7, t8⟩ := hSw; go_simp⟩) (by assumption) ?_
      simp only [Act.put, List.setIfInBounds_toArray, List.set_cons_zero, List.set_cons_succ]
      refine wpAnyH_take (i := 3) (oi := { dst := some 32, op := Go.Op.fieldAddr 54 (Go.Operand.tmp 31) 0, type := 0, pos := "l06_graph.go:212", after := #[{ on := 2, ground := Go.Ground.data }], guard := none }) (v := .pointer (some ⟨D, 0, none⟩)) rfl (by kernel_rfl) (by kernel_rfl) (by kernel_rfl) (fun _ _ _ h => h) (Or.inl ⟨by rfl, by intro w hSw; (try dsimp only at hSw); obtain ⟨s0, s1, s2, t0, t1, t2, t3, t4, t5, t6, t7, t8⟩ := hSw; go_simp⟩) (by assumption) ?_
      simp only [Act.put, List.setIfInBounds_toArray, List.set_cons_zero, List.set_cons_succ]
      refine wpAnyH_take (i := 4) (oi := { dst := some 33, op := Go.Op.load 48 (Go.Operand.tmp 32), type := 48, pos := "l06_graph.go:212", after := #[{ on := 3, ground := Go.Ground.data }], guard := none }) (v := .slice (some ⟨gs, 0, none⟩) ss.length cu) rfl (by kernel_rfl) (by kernel_rfl) (by kernel_rfl) (fun _ _ _ h => h) (Or.inl ⟨by rfl, by intro w hSw; (try dsimp only at hSw); obtain ⟨s0, s1, s2, t0, t1, t2, t3, t4, t5, t6, t7, t8⟩ := hSw; go_simp⟩) (by assumption) ?_
      simp only [Act.put, List.setIfInBounds_toArray, List.set_cons_zero, List.set_cons_succ]
      refine wpAnyH_take (i := 5) (oi := { dst := some 34, op := Go.Op.fieldAddr 61 (Go.Operand.tmp 3) 0, type := 0, pos := "l06_graph.go:212", after := #[], guard := none }) (v := .pointer (some ⟨w.heap.size, 0, none⟩)) rfl (by kernel_rfl) (by kernel_rfl) (by kernel_rfl) (fun _ _ _ h => h) (Or.inl ⟨by rfl, by intro w hSw; (try dsimp only at hSw); obtain ⟨s0, s1, s2, t0, t1, t2, t3, t4, t5, t6, t7, t8⟩ := hSw; go_simp⟩) (by assumption) ?_
      simp only [Act.put, List.setIfInBounds_toArray, List.set_cons_zero, List.set_cons_succ]
      refine wpAnyH_take (i := 6) (oi := { dst := some 35, op := Go.Op.fieldAddr 59 (Go.Operand.tmp 34) 2, type := 0, pos := "l06_graph.go:212", after := #[{ on := 5, ground := Go.Ground.data }], guard := none }) (v := .pointer (some ⟨w.heap.size, 2, none⟩)) rfl (by kernel_rfl) (by kernel_rfl) (by kernel_rfl) (fun _ _ _ h => h) (Or.inl ⟨by rfl, by intro w hSw; (try dsimp only at hSw); obtain ⟨s0, s1, s2, t0, t1, t2, t3, t4, t5, t6, t7, t8⟩ := hSw; go_simp⟩) (by assumption) ?_
      simp only [Act.put, List.setIfInBounds_toArray, List.set_cons_zero, List.set_cons_succ]
      refine wpAnyH_take (i := 7) (oi := { dst := some 36, op := Go.Op.load 57 (Go.Operand.tmp 35), type := 57, pos := "l06_graph.go:212", after := #[{ on := 6, ground := Go.Ground.data }], guard := none }) (v := .slice (some ⟨bk, 0, none⟩) 2 ck) rfl (by kernel_rfl) (by kernel_rfl) (by kernel_rfl) (fun _ _ _ h => h) (Or.inl ⟨by rfl, by intro w hSw; (try dsimp only at hSw); obtain ⟨s0, s1, s2, t0, t1, t2, t3, t4, t5, t6, t7, t8⟩ := hSw; go_simp⟩) (by assumption) ?_
      simp only [Act.put, List.setIfInBounds_toArray, List.set_cons_zero, List.set_cons_succ]
      refine wpAnyH_take (i := 8) (oi := { dst := some 37, op := Go.Op.indexAddr 57 (Go.Operand.tmp 36) (Go.Operand.const (Go.Value.int Go.IntKind.i64 1)), type := 0, pos := "l06_graph.go:212", after := #[{ on := 7, ground := Go.Ground.data }], guard := none }) (v := .pointer (some ⟨bk, 1, none⟩)) rfl (by kernel_rfl) (by kernel_rfl) (by kernel_rfl) (fun _ _ _ h => h) (Or.inl ⟨by rfl, by intro w hSw; (try dsimp only at hSw); obtain ⟨s0, s1, s2, t0, t1, t2, t3, t4, t5, t6, t7, t8⟩ := hSw; go_simp⟩) (by assumption) ?_
      simp only [Act.put, List.setIfInBounds_toArray, List.set_cons_zero, List.set_cons_succ]
      refine wpAnyH_take (i := 9) (oi := { dst := some 38, op := Go.Op.load 2 (Go.Operand.tmp 37), type := 2, pos := "l06_graph.go:212", after := #[{ on := 8, ground := Go.Ground.data }], guard := none }) (v := .int .i64 (j : Int)) rfl (by kernel_rfl) (by kernel_rfl) (by kernel_rfl) (fun _ _ _ h => h) (Or.inl ⟨by rfl, by intro w hSw; (try dsimp only at hSw); obtain ⟨s0, s1, s2, t0, t1, t2, t3, t4, t5, t6, t7, t8⟩ := hSw; go_simp⟩) (by assumption) ?_
      simp only [Act.put, List.setIfInBounds_toArray, List.set_cons_zero, List.set_cons_succ]
      refine wpAnyH_take (i := 10) (oi := { dst := some 39, op := Go.Op.indexAddr 48 (Go.Operand.tmp 33) (Go.Operand.tmp 38), type := 0, pos := "l06_graph.go:212", after := #[{ on := 4, ground := Go.Ground.data }, { on := 9, ground := Go.Ground.data }], guard := none }) (v := .pointer (some ⟨gs, j * 9, none⟩)) rfl (by kernel_rfl) (by kernel_rfl) (by kernel_rfl) (fun _ _ _ h => h) (Or.inl ⟨by rfl, by intro w hSw; (try dsimp only at hSw); obtain ⟨s0, s1, s2, t0, t1, t2, t3, t4, t5, t6, t7, t8⟩ := hSw; go_simp⟩) (by assumption) ?_
      simp only [Act.put, List.setIfInBounds_toArray, List.set_cons_zero, List.set_cons_succ]
      refine wpAnyH_take (i := 11) (oi := { dst := some 40, op := Go.Op.load 61 (Go.Operand.tmp 39), type := 61, pos := "l06_graph.go:212", after := #[{ on := 10, ground := Go.Ground.data }], guard := none }) (v := .agg #[.int .i64 (j : Int), .int .i64 ((path ss (j + 1)).length : Int), .slice a1 n1 c1, .int .i64 (ss[j]'hj).kind, .int .i64 (ss[j]'hj).parent, .string (ss[j]'hj).name, .int .i64 (ss[j]'hj).arg, .slice a2 n2 c2, .slice a3 n3 c3]) rfl (by kernel_rfl) (by kernel_rfl) (by kernel_rfl) (fun _ _ _ h => h) (Or.inl ⟨by rfl, by intro w hSw; (try dsimp only at hSw); obtain ⟨s0, s1, s2, t0, t1, t2, t3, t4, t5, t6, t7, t8⟩ := hSw; go_simp⟩) (by assumption) ?_
      simp only [Act.put, List.setIfInBounds_toArray, List.set_cons_zero, List.set_cons_succ]
      refine wpAnyH_ready (rs := [12, 13]) (by kernel_rfl) (by simp) ?_
      refine (AllReadyH.cons (o := { dst := some 41, op := Go.Op.call { callee := Go.Callee.value (Go.Operand.func 19), args := #[Go.Operand.tmp 29, Go.Operand.tmp 40], argTypes := #[90, 61] }, type := 63, pos := "l06_graph.go:212", after := #[{ on := 0, ground := Go.Ground.data }, { on := 11, ground := Go.Ground.data }], guard := none }) rfl (fun K hK => ?_) (AllReadyH.cons (o := { dst := some 8, op := Go.Op.alloc 63, type := 0, pos := "l06_graph.go:212", after := #[], guard := none }) rfl (fun K hK => ?_) AllReadyH.nil))
      · replace HGD := hid (HGD.out.below ((Below.refl _ _).drew))
        replace HEN := hid (HEN.out.below ((Below.refl _ _).drew))
        replace HCL := hid (HCL.out.below ((Below.refl _ _).drew))
        replace HP1 := hid (HP1.out.below ((Below.refl _ _).drew))
        replace HQ1 := hid (HQ1.out.below ((Below.refl _ _).drew))
        replace HW1 := hid (HW1.out.below ((Below.refl _ _).drew))
        go_simp
        go_at_call 19
        refine (HSF1.out _ (HGD.out.fr.env HBw.out HDw.out hwp) HGD.out.db).mono ?_
        rintro e w3 ⟨p, q, S3, rfl, hG3, hF3, hp3, hq3⟩
        replace HEN := hid (HEN.out.fr HGD.out.db hF3)
        replace HCL := hid (HCL.out.fr HGD.out.db hF3)
        replace HP1 := hid (HP1.out.fr HGD.out.db hF3)
        replace HQ1 := hid (HQ1.out.fr HGD.out.db hF3)
        replace HW1 := hid (HW1.out.fr hF3)
        replace HGD := hid (HGD.out.turn hG3 hF3)
        have HP3 := hid hp3
        have HQ3 := hid hq3
        have hhd3 := HHD.out w3 (HGD.out.fr.env HBw.out HDw.out hwp) HGD.out.db.u (HGD.out.bx.cell 2)
        have hz3 : w.heap.size + 1 < w3.heap.size := HGD.out.rs.lt
        clear hG3 hF3 hp3 hq3
        go_wp2_with fail
        refine hK.out _ _ hhd3 (fun hHeld => ?_)
        clear hK K
        try simp only [Act.put, List.setIfInBounds_toArray, List.set_cons_zero, List.set_cons_succ]
        refine wpAnyH_ready (rs := [13]) (by kernel_rfl) (by simp) ?_
        refine (AllReadyH.cons (o := { dst := some 8, op := Go.Op.alloc 63, type := 0, pos := "l06_graph.go:212", after := #[], guard := none }) rfl (fun K hK => ?_) AllReadyH.nil)
        go_simp
        have hal : ∀ o, Below w3.heap.size w3 (w3.alloc o) := fun o => (Below.refl _ w3).alloc (Nat.le_refl _) o
        have hN4 := HGD.out.db.new (.cells #[.pointer none, .pointer none] 63)
        have hhd4 : ∀ o, HD (w3.alloc o) D w.heap.size bk 1 gs j (.slice (some ⟨gs, 0, none⟩) ss.length cu) (.slice (some ⟨bk, 0, none⟩) 2 ck) (.int .i64 (j : Int)) (.int .i64 ((path ss (j + 1)).length : Int)) (.slice a1 n1 c1) (.int .i64 (ss[j]'hj).kind) (.int .i64 (ss[j]'hj).parent) (.string (ss[j]'hj).name) (.int .i64 (ss[j]'hj).arg) (.slice a2 n2 c2) (.slice a3 n3 c3) := fun o => HHD.out (w3.alloc o) ((HGD.out.below (hal o)).fr.env HBw.out HDw.out hwp) (HGD.out.below (hal o)).db.u ((HGD.out.below (hal o)).bx.cell 2)
        refine hK.out _ _ (hhd4 _) (fun hHeld => ?_)
        clear hK K
        try simp only [Act.put, List.setIfInBounds_toArray, List.set_cons_zero, List.set_cons_succ]
        have z0 := hN4.cell 0
        have z1 := hN4.cell 1
        have y0 := hN4.free 0
        have y1 := hN4.free 1
        refine wpAnyH_ready (rs := [14]) (by kernel_rfl) (by simp) ?_
        refine (AllReadyH.cons (o := { dst := none, op := Go.Op.store 63 (Go.Operand.tmp 8) (Go.Operand.tmp 41), type := 0, pos := "l06_graph.go:212", after := #[{ on := 13, ground := Go.Ground.data }, { on := 12, ground := Go.Ground.data }, { on := 12, ground := Go.Ground.chain }, { on := 0, ground := Go.Ground.phase }, { on := 1, ground := Go.Ground.phase }, { on := 2, ground := Go.Ground.phase }, { on := 3, ground := Go.Ground.phase }, { on := 4, ground := Go.Ground.phase }, { on := 5, ground := Go.Ground.phase }, { on := 6, ground := Go.Ground.phase }, { on := 7, ground := Go.Ground.phase }, { on := 8, ground := Go.Ground.phase }, { on := 9, ground := Go.Ground.phase }, { on := 10, ground := Go.Ground.phase }, { on := 11, ground := Go.Ground.phase }, { on := 12, ground := Go.Ground.phase }, { on := 13, ground := Go.Ground.phase }], guard := none }) rfl (fun K hK => ?_) AllReadyH.nil)
        go_simp
        refine hK.out _ _ (hhd4 _) (fun hHeld => ?_)
        clear hK K
        try simp only [Act.put]
        refine wpAnyH_done (by kernel_rfl) ?_ _
        go_wp2_with fail
        go_meet
        exact ⟨_, p, q, S3, rfl, hid ⟨HGD.out.below (hal _), HGD.out.db.new _, HP3.out.below (hal _), HQ3.out.below (hal _), (by omega), HEN.out.below (hal _), HCL.out.below (hal _), HP1.out.below (hal _), HQ1.out.below (hal _), HW1.out.below (hal _)⟩⟩
      · go_simp
        have hlt_HW1 := HW1.out.lt
        have hbA : Below w4.heap.size w4 (w4.alloc (.cells #[.pointer none, .pointer none] 63)).drew := ((Below.refl _ _).alloc (Nat.le_refl _) _).drew
        have HNA := hid ((HGD.out.db.new (.cells #[.pointer none, .pointer none] 63)).below ((Below.refl _ _).drew))
        have hzA : w.heap.size + 1 < w4.heap.size := HGD.out.rs.lt
        replace HGD := hid (HGD.out.below hbA)
        replace HEN := hid (HEN.out.below hbA)
        replace HCL := hid (HCL.out.below hbA)
        replace HP1 := hid (HP1.out.below hbA)
        replace HQ1 := hid (HQ1.out.below hbA)
        replace HW1 := hid (HW1.out.below hbA)
        have hhdA := HHD.out _ (HGD.out.fr.env HBw.out HDw.out hwp) HGD.out.db.u (HGD.out.bx.cell 2)
        obtain ⟨bA, hbAe⟩ : ∃ bA, bA = w4.heap.size := ⟨_, rfl⟩
        rw [← hbAe] at HNA hzA hlt_HW1
        rw [← hbAe]
        clear hbA hbAe
        generalize (w4.alloc (.cells #[.pointer none, .pointer none] 63)).drew = wA at *
        refine hK.out _ _ hhdA (fun hHeld => ?_)
        clear hK K
        try simp only [Act.put, List.setIfInBounds_toArray, List.set_cons_zero, List.set_cons_succ]
        refine wpAnyH_ready (rs := [12]) (by kernel_rfl) (by simp) ?_
        refine (AllReadyH.cons (o := { dst := some 41, op := Go.Op.call { callee := Go.Callee.value (Go.Operand.func 19), args := #[Go.Operand.tmp 29, Go.Operand.tmp 40], argTypes := #[90, 61] }, type := 63, pos := "l06_graph.go:212", after := #[{ on := 0, ground := Go.Ground.data }, { on := 11, ground := Go.Ground.data }], guard := none }) rfl (fun K hK => ?_) AllReadyH.nil)
        go_simp
        go_at_call 19
        refine (HSF1.out _ (HGD.out.fr.env HBw.out HDw.out hwp) HGD.out.db).mono ?_
        rintro e w3 ⟨p, q, S3, rfl, hG3, hF3, hp3, hq3⟩
        replace HEN := hid (HEN.out.fr HGD.out.db hF3)
        replace HCL := hid (HCL.out.fr HGD.out.db hF3)
        replace HP1 := hid (HP1.out.fr HGD.out.db hF3)
        replace HQ1 := hid (HQ1.out.fr HGD.out.db hF3)
        replace HW1 := hid (HW1.out.fr hF3)
        replace HNA := hid (HNA.out.fr hF3)
        replace HGD := hid (HGD.out.turn hG3 hF3)
        have HP3 := hid hp3
        have HQ3 := hid hq3
        have hhd3 := HHD.out w3 (HGD.out.fr.env HBw.out HDw.out hwp) HGD.out.db.u (HGD.out.bx.cell 2)
        have hz3 : w.heap.size + 1 < w3.heap.size := HGD.out.rs.lt
        clear hG3 hF3 hp3 hq3
        go_wp2_with fail
        refine hK.out _ _ hhd3 (fun hHeld => ?_)
        clear hK K
        try simp only [Act.put, List.setIfInBounds_toArray, List.set_cons_zero, List.set_cons_succ]
        have hM := HNA.out.set (i := 0) (.pointer (some ⟨p, 0, none⟩))
        have hM2 := hM.set (i := 1) (.pointer (some ⟨q, 0, none⟩))
        have hD5 := (HGD.out.set HNA.out (i := 0) (by decide) (by decide) (by omega) (by omega) (by omega) (.pointer (some ⟨p, 0, none⟩))).set hM (i := 1) (by decide) (by decide) (by omega) (by omega) (by omega) (.pointer (some ⟨q, 0, none⟩))
        have hhd5 := HHD.out _ (hD5.fr.env HBw.out HDw.out hwp) hD5.db.u (hD5.bx.cell 2)
        have z0 := HNA.out.cell 0
        have z1 := HNA.out.cell 1
        have y0 := HNA.out.free 0
        have y1 := HNA.out.free 1
        refine wpAnyH_ready (rs := [14]) (by kernel_rfl) (by simp) ?_
        refine (AllReadyH.cons (o := { dst := none, op := Go.Op.store 63 (Go.Operand.tmp 8) (Go.Operand.tmp 41), type := 0, pos := "l06_graph.go:212", after := #[{ on := 13, ground := Go.Ground.data }, { on := 12, ground := Go.Ground.data }, { on := 12, ground := Go.Ground.chain }, { on := 0, ground := Go.Ground.phase }, { on := 1, ground := Go.Ground.phase }, { on := 2, ground := Go.Ground.phase }, { on := 3, ground := Go.Ground.phase }, { on := 4, ground := Go.Ground.phase }, { on := 5, ground := Go.Ground.phase }, { on := 6, ground := Go.Ground.phase }, { on := 7, ground := Go.Ground.phase }, { on := 8, ground := Go.Ground.phase }, { on := 9, ground := Go.Ground.phase }, { on := 10, ground := Go.Ground.phase }, { on := 11, ground := Go.Ground.phase }, { on := 12, ground := Go.Ground.phase }, { on := 13, ground := Go.Ground.phase }], guard := none }) rfl (fun K hK => ?_) AllReadyH.nil)
        go_simp
        refine hK.out _ _ hhd5 (fun hHeld => ?_)
        clear hK K
        try simp only [Act.put]
        refine wpAnyH_done (by kernel_rfl) ?_ _
        go_wp2_with fail
        go_meet
        exact ⟨_, p, q, S3, rfl, hid ⟨hD5, hM2, (HP3.out.set HNA.out (by decide) _).set hM (by decide) _, (HQ3.out.set HNA.out (by decide) _).set hM (by decide) _, (by omega), (HEN.out.set HNA.out (by decide) _).set hM (by decide) _, (HCL.out.set HNA.out (by decide) _).set hM (by decide) _, (HP1.out.set HNA.out (by decide) _).set hM (by decide) _, (HQ1.out.set HNA.out (by decide) _).set hM (by decide) _, (HW1.out.other (by omega) _).other (by omega) _⟩⟩
    case rest =>
      obtain ⟨bb, pb, qb, S5, rfl, HR5⟩ := hcut
      obtain ⟨hR5, hW5, hP5, hQ5, hb5, hx1, hx2, hx3, hx4, hx5⟩ := HR5.out
      replace HGD := hid hR5
      have HW2 := hid hW5
      have HP2 := hid hP5
      have HQ2 := hid hQ5
      replace HEN := hid hx1
      replace HCL := hid hx2
      replace HP1 := hid hx3
      replace HQ1 := hid hx4
      replace HW1 := hid hx5
      clear HR5 hR5 hW5 hP5 hQ5 hx1 hx2 hx3 hx4 hx5 HHD hhd HSF1 hj hj'
      obtain ⟨wd, hwd⟩ : ∃ wd, wd = wc := ⟨_, rfl⟩
      rw [← hwd] at HGD HW2 HP2 HQ2 HEN HCL HP1 HQ1 HW1
      rw [← hwd]
      clear hwd
      have HA3 := hid (HADD.out S5 q2.1 wd 13 (HGD.out.fr.env HBw.out HDw.out hwp) HGD.out.db BN3.out (by omega))
      have b0 := HGD.out.bx.cell 0
      have b1 := HGD.out.bx.cell 1
      have b2 := HGD.out.bx.cell 2
      have b3 := HGD.out.bx.cell 3
      have b4 := HGD.out.bx.cell 4
      have b5 := HGD.out.bx.cell 5
      have b6 := HGD.out.bx.cell 6
      have b7 := HGD.out.bx.cell 7
      have b8 := HGD.out.bx.cell 8
      have hzb := HGD.out.bx.lt
      go_wp2_with fail
      refine HA3.out.mono ?_
      rintro e w6 ⟨lp, S6, rfl, hG6, hF6, hp6⟩
      have HLP := hid hp6
      replace HEN := hid (HEN.out.fr HGD.out.db hF6)
      replace HCL := hid (HCL.out.fr HGD.out.db hF6)
      replace HP1 := hid (HP1.out.fr HGD.out.db hF6)
      replace HQ1 := hid (HQ1.out.fr HGD.out.db hF6)
      replace HW1 := hid (HW1.out.fr hF6)
      replace HP2 := hid (HP2.out.fr HGD.out.db hF6)
      replace HQ2 := hid (HQ2.out.fr HGD.out.db hF6)
      replace HW2 := hid (HW2.out.fr hF6)
      replace HGD : Hid (GD w w6 D S S6 (.slice (some ⟨gs, 0, none⟩) ss.length cu) gD w.heap.size (w.heap.size + 1) (.cells #[.int .i64 (k : Int), .int .i64 ((path ss (k + 1)).length : Int), .slice (some ⟨bk, 0, none⟩) 2 ck, .int .i64 ss[k].kind, .int .i64 ss[k].parent, .string ss[k].name, .int .i64 ss[k].arg, .slice ac ss[k].cond.length cc, .slice ae ss[k].expr.length ce] 61) (.cells #[.pointer none, .pointer none] 63)) := hid (HGD.out.turn (by rw [HGDe.out]; exact hG6) hF6)
      clear hG6 hF6 hp6 HA3 b0 b1 b2 b3 b4 b5 b6 b7 b8 hzb
      have HAF := hid (addFlow D S6 (.slice (some ⟨gs, 0, none⟩) ss.length cu) gD en pa g.nodes.length q1.2.1 [] (.slice none 0 0) w6 HGD.out.db HEN.out HP1.out (row_nil _ _ _ _) (Nat.zero_le _) HSR.out.1 BI.out.1 BI.out.2.1)
      have i0 := HW1.out.cell 0
      have i1 := HW1.out.cell 1
      have k0c := HW2.out.cell 0
      have k1c := HW2.out.cell 1
      have hzi := HW1.out.lt
      have hzk := HW2.out.lt
      go_wp2_with fail
      refine HAF.out.mono ?_
      rintro e x1 ⟨⟨rr1, rfl⟩, T1, hGx, hFx⟩
      replace HEN := hid (HEN.out.fr HGD.out.db hFx)
      replace HCL := hid (HCL.out.fr HGD.out.db hFx)
      replace HP1 := hid (HP1.out.fr HGD.out.db hFx)
      replace HQ1 := hid (HQ1.out.fr HGD.out.db hFx)
      replace HW1 := hid (HW1.out.fr hFx)
      replace HP2 := hid (HP2.out.fr HGD.out.db hFx)
      replace HQ2 := hid (HQ2.out.fr HGD.out.db hFx)
      replace HW2 := hid (HW2.out.fr hFx)
      replace HLP := hid (HLP.out.fr HGD.out.db hFx)
      replace HGD : Hid (GD w x1 D S T1 (.slice (some ⟨gs, 0, none⟩) ss.length cu) gE w.heap.size (w.heap.size + 1) (.cells #[.int .i64 (k : Int), .int .i64 ((path ss (k + 1)).length : Int), .slice (some ⟨bk, 0, none⟩) 2 ck, .int .i64 ss[k].kind, .int .i64 ss[k].parent, .string ss[k].name, .int .i64 ss[k].arg, .slice ac ss[k].cond.length cc, .slice ae ss[k].expr.length ce] 61) (.cells #[.pointer none, .pointer none] 63)) := hid (HGD.out.turn (by rw [HGE.out.1]; exact hGx) hFx)
      clear hGx hFx HAF i0 i1 k0c k1c hzi hzk
      have HAF := hid (addFlow D T1 (.slice (some ⟨gs, 0, none⟩) ss.length cu) gE en pb g.nodes.length q2.2.1 [] (.slice none 0 0) x1 HGD.out.db HEN.out HP2.out (row_nil _ _ _ _) (Nat.zero_le _) HSR.out.2.1 BI.out.1 BI.out.2.2.2.1)
      have i0 := HW1.out.cell 0
      have i1 := HW1.out.cell 1
      have k0c := HW2.out.cell 0
      have k1c := HW2.out.cell 1
      have hzi := HW1.out.lt
      have hzk := HW2.out.lt
      go_wp2_with fail
      refine HAF.out.mono ?_
      rintro e x2 ⟨⟨rr2, rfl⟩, T2, hGx, hFx⟩
      replace HEN := hid (HEN.out.fr HGD.out.db hFx)
      replace HCL := hid (HCL.out.fr HGD.out.db hFx)
      replace HP1 := hid (HP1.out.fr HGD.out.db hFx)
      replace HQ1 := hid (HQ1.out.fr HGD.out.db hFx)
      replace HW1 := hid (HW1.out.fr hFx)
      replace HP2 := hid (HP2.out.fr HGD.out.db hFx)
      replace HQ2 := hid (HQ2.out.fr HGD.out.db hFx)
      replace HW2 := hid (HW2.out.fr hFx)
      replace HLP := hid (HLP.out.fr HGD.out.db hFx)
      replace HGD : Hid (GD w x2 D S T2 (.slice (some ⟨gs, 0, none⟩) ss.length cu) gF w.heap.size (w.heap.size + 1) (.cells #[.int .i64 (k : Int), .int .i64 ((path ss (k + 1)).length : Int), .slice (some ⟨bk, 0, none⟩) 2 ck, .int .i64 ss[k].kind, .int .i64 ss[k].parent, .string ss[k].name, .int .i64 ss[k].arg, .slice ac ss[k].cond.length cc, .slice ae ss[k].expr.length ce] 61) (.cells #[.pointer none, .pointer none] 63)) := hid (HGD.out.turn (by rw [HGE.out.2.1]; exact hGx) hFx)
      clear hGx hFx HAF i0 i1 k0c k1c hzi hzk
      have HAF := hid (addFlow D T2 (.slice (some ⟨gs, 0, none⟩) ss.length cu) gF qa cl q1.2.2 q1.1.nodes.length [] (.slice none 0 0) x2 HGD.out.db HQ1.out HCL.out (row_nil _ _ _ _) (Nat.zero_le _) HSR.out.2.2.1 BI.out.2.2.1 BI.out.2.2.2.2.2.1)
      have i0 := HW1.out.cell 0
      have i1 := HW1.out.cell 1
      have k0c := HW2.out.cell 0
      have k1c := HW2.out.cell 1
      have hzi := HW1.out.lt
      have hzk := HW2.out.lt
      go_wp2_with fail
      refine HAF.out.mono ?_
      rintro e x3 ⟨⟨rr3, rfl⟩, T3, hGx, hFx⟩
      replace HEN := hid (HEN.out.fr HGD.out.db hFx)
      replace HCL := hid (HCL.out.fr HGD.out.db hFx)
      replace HP1 := hid (HP1.out.fr HGD.out.db hFx)
      replace HQ1 := hid (HQ1.out.fr HGD.out.db hFx)
      replace HW1 := hid (HW1.out.fr hFx)
      replace HP2 := hid (HP2.out.fr HGD.out.db hFx)
      replace HQ2 := hid (HQ2.out.fr HGD.out.db hFx)
      replace HW2 := hid (HW2.out.fr hFx)
      replace HLP := hid (HLP.out.fr HGD.out.db hFx)
      replace HGD : Hid (GD w x3 D S T3 (.slice (some ⟨gs, 0, none⟩) ss.length cu) gG w.heap.size (w.heap.size + 1) (.cells #[.int .i64 (k : Int), .int .i64 ((path ss (k + 1)).length : Int), .slice (some ⟨bk, 0, none⟩) 2 ck, .int .i64 ss[k].kind, .int .i64 ss[k].parent, .string ss[k].name, .int .i64 ss[k].arg, .slice ac ss[k].cond.length cc, .slice ae ss[k].expr.length ce] 61) (.cells #[.pointer none, .pointer none] 63)) := hid (HGD.out.turn (by rw [HGE.out.2.2.1]; exact hGx) hFx)
      clear hGx hFx HAF i0 i1 k0c k1c hzi hzk
      have HAF := hid (addFlow D T3 (.slice (some ⟨gs, 0, none⟩) ss.length cu) gG cl lp q1.1.nodes.length q2.1.nodes.length [] (.slice none 0 0) x3 HGD.out.db HCL.out HLP.out (row_nil _ _ _ _) (Nat.zero_le _) HSR.out.2.2.2.1 BI.out.2.2.2.2.2.1 BI.out.2.2.2.2.2.2)
      have i0 := HW1.out.cell 0
      have i1 := HW1.out.cell 1
      have k0c := HW2.out.cell 0
      have k1c := HW2.out.cell 1
      have hzi := HW1.out.lt
      have hzk := HW2.out.lt
      go_wp2_with fail
      refine HAF.out.mono ?_
      rintro e x4 ⟨⟨rr4, rfl⟩, T4, hGx, hFx⟩
      replace HEN := hid (HEN.out.fr HGD.out.db hFx)
      replace HCL := hid (HCL.out.fr HGD.out.db hFx)
      replace HP1 := hid (HP1.out.fr HGD.out.db hFx)
      replace HQ1 := hid (HQ1.out.fr HGD.out.db hFx)
      replace HW1 := hid (HW1.out.fr hFx)
      replace HP2 := hid (HP2.out.fr HGD.out.db hFx)
      replace HQ2 := hid (HQ2.out.fr HGD.out.db hFx)
      replace HW2 := hid (HW2.out.fr hFx)
      replace HLP := hid (HLP.out.fr HGD.out.db hFx)
      replace HGD : Hid (GD w x4 D S T4 (.slice (some ⟨gs, 0, none⟩) ss.length cu) gH w.heap.size (w.heap.size + 1) (.cells #[.int .i64 (k : Int), .int .i64 ((path ss (k + 1)).length : Int), .slice (some ⟨bk, 0, none⟩) 2 ck, .int .i64 ss[k].kind, .int .i64 ss[k].parent, .string ss[k].name, .int .i64 ss[k].arg, .slice ac ss[k].cond.length cc, .slice ae ss[k].expr.length ce] 61) (.cells #[.pointer none, .pointer none] 63)) := hid (HGD.out.turn (by rw [HGE.out.2.2.2.1]; exact hGx) hFx)
      clear hGx hFx HAF i0 i1 k0c k1c hzi hzk
      have HAF := hid (addFlow D T4 (.slice (some ⟨gs, 0, none⟩) ss.length cu) gH qb lp q2.2.2 q2.1.nodes.length [] (.slice none 0 0) x4 HGD.out.db HQ2.out HLP.out (row_nil _ _ _ _) (Nat.zero_le _) HSR.out.2.2.2.2 BI.out.2.2.2.2.1 BI.out.2.2.2.2.2.2)
      have i0 := HW1.out.cell 0
      have i1 := HW1.out.cell 1
      have k0c := HW2.out.cell 0
      have k1c := HW2.out.cell 1
      have hzi := HW1.out.lt
      have hzk := HW2.out.lt
      go_wp2_with fail
      refine HAF.out.mono ?_
      rintro e x5 ⟨⟨rr5, rfl⟩, T5, hGx, hFx⟩
      replace HEN := hid (HEN.out.fr HGD.out.db hFx)
      replace HCL := hid (HCL.out.fr HGD.out.db hFx)
      replace HP1 := hid (HP1.out.fr HGD.out.db hFx)
      replace HQ1 := hid (HQ1.out.fr HGD.out.db hFx)
      replace HW1 := hid (HW1.out.fr hFx)
      replace HP2 := hid (HP2.out.fr HGD.out.db hFx)
      replace HQ2 := hid (HQ2.out.fr HGD.out.db hFx)
      replace HW2 := hid (HW2.out.fr hFx)
      replace HLP := hid (HLP.out.fr HGD.out.db hFx)
      replace HGD : Hid (GD w x5 D S T5 (.slice (some ⟨gs, 0, none⟩) ss.length cu) gI w.heap.size (w.heap.size + 1) (.cells #[.int .i64 (k : Int), .int .i64 ((path ss (k + 1)).length : Int), .slice (some ⟨bk, 0, none⟩) 2 ck, .int .i64 ss[k].kind, .int .i64 ss[k].parent, .string ss[k].name, .int .i64 ss[k].arg, .slice ac ss[k].cond.length cc, .slice ae ss[k].expr.length ce] 61) (.cells #[.pointer none, .pointer none] 63)) := hid (HGD.out.turn (by rw [HGE.out.2.2.2.2]; exact hGx) hFx)
      clear hGx hFx HAF i0 i1 k0c k1c hzi hzk
      have r0 := HGD.out.rs.cell 0
      have r1 := HGD.out.rs.cell 1
      have z0 := HGD.out.rs.free 0
      have z1 := HGD.out.rs.free 1
      go_wp2
      have hM := HGD.out.rs.set (i := 0) (.pointer (some ⟨en, 0, none⟩))
      have hM2 := hM.set (i := 1) (.pointer (some ⟨lp, 0, none⟩))
      have g0 := hM2.cell 0
      have g1 := hM2.cell 1
      refine bodyPost_ret (v := .agg #[.pointer (some ⟨en, 0, none⟩), .pointer (some ⟨lp, 0, none⟩)]) (by simp [results, Tryz.results44, go_sem, g0, g1]) rfl ?_
      rw [HEQ.out]
      exact ⟨en, lp, _, rfl, (HGD.out.db.set HGD.out.rs (by decide) (by decide) _).set hM (by decide) (by decide) _, (HGD.out.fr.set (by omega) _).set (by omega) _, (HEN.out.set HGD.out.rs (by decide) _).set hM (by decide) _, (HLP.out.set HGD.out.rs (by decide) _).set hM (by decide) _⟩
end Gr
end Go.Proofs.YtfgckeoigkoflaaGreatDoor
