/- The program's drawSeq, over what it draws of the kids. -/
import Derived.Test.YtfgckeoigkoflaaGreatDoorJGraphOf43
import Derived.Test.YtfgckeoigkoflaaGreatDoorJGraphOf16
import Derived.Deep.Cut
namespace Go.Proofs.YtfgckeoigkoflaaGreatDoor
open Go.RowKit
set_option linter.unusedVariables false
namespace Gr
open Ex (hid nvals at_of_owns owns_keep inR)
open Nd (NodeD)
open Gn (GNodeD)
open Fl (FlowD)
open St (StepD)
open Nst (own)
open Pf (PJ PJ_eq kidsL pFault PAt PCells KidsAt path)
open Pt (kidVals)
open Rc
/-- What is read while a kid's step is handed over. -/
structure HD (w : World) (D B bk i gs j : Nat) (u kv v0 v1 v2 v3 v4 v5 v6 v7 v8 : Value) : Prop where
  d0 : w.cell? ⟨D, 0, none⟩ = some u
  b2 : w.cell? ⟨B, 2, none⟩ = some kv
  kk : w.cell? ⟨bk, i, none⟩ = some (.int .i64 (j : Int))
  c0 : w.cell? ⟨gs, j * 9, none⟩ = some v0
  c1 : w.cell? ⟨gs, j * 9 + 1, none⟩ = some v1
  c2 : w.cell? ⟨gs, j * 9 + 2, none⟩ = some v2
  c3 : w.cell? ⟨gs, j * 9 + 3, none⟩ = some v3
  c4 : w.cell? ⟨gs, j * 9 + 4, none⟩ = some v4
  c5 : w.cell? ⟨gs, j * 9 + 5, none⟩ = some v5
  c6 : w.cell? ⟨gs, j * 9 + 6, none⟩ = some v6
  c7 : w.cell? ⟨gs, j * 9 + 7, none⟩ = some v7
  c8 : w.cell? ⟨gs, j * 9 + 8, none⟩ = some v8
theorem DB.u {w : World} {D : Nat} {S : Nat → Prop} {u : Value} {g : GraphD} (h : DB w D S u g) : w.cell? ⟨D, 0, none⟩ = some u := by
  obtain ⟨vn, M, pn, E, fs, hx, hS⟩ := h
  simp [World.cell?, hx.box]
theorem kids_at {w : World} {v : Value} {l : List Nat} (h : KidsAt w v l) (h0 : 0 < l.length) : ∃ bk cap, v = .slice (some ⟨bk, 0, none⟩) l.length cap ∧ bk < w.heap.size ∧ l.length ≤ cap ∧ cap ≤ maxLen ∧ ∀ i (h : i < l.length), w.cell? ⟨bk, i, none⟩ = some (.int .i64 (l[i] : Int)) := by
  obtain ⟨B, ho⟩ := h
  obtain ⟨bk, cap, rfl, _, h2, h3, h4⟩ := Nst.own_some ho h0
  exact ⟨bk, cap, rfl, h2, h3, h4, fun i hi => (ho.cellAt i (by omega)).trans (by simp [kidVals, hi])⟩
/-- A passage that is under way, and what else the call has. -/
structure WB (w wx : World) (D : Nat) (S S' : Nat → Prop) (u : Value) (d : Drawn) (b p q B R : Nat) (s9 z : Obj) : Prop where
  db : DB wx D S' u d.1
  fr : Fr w wx D S S'
  wh : LB wx D S' b (.cells #[.pointer (some ⟨p, 0, none⟩), .pointer (some ⟨q, 0, none⟩)] 63)
  pi : PtN wx D p d.2.1
  po : PtN wx D q d.2.2
  bx : LB wx D S' B s9
  rs : LB wx D S' R z
  nb : w.heap.size ≤ b ∧ b ≠ B ∧ b ≠ R
theorem WB.turn {w wx w' : World} {D : Nat} {S S' S'' : Nat → Prop} {u : Value} {d : Drawn} {b p q B R : Nat} {s9 z : Obj} {g' : GraphD} (h : WB w wx D S S' u d b p q B R s9 z) (hG : DB w' D S'' u g') (hF : Fr wx w' D S' S'') : WB w w' D S S'' u (g', d.2.1, d.2.2) b p q B R s9 z :=
  ⟨hG, h.fr.trans hF, h.wh.fr hF, h.pi.fr h.db hF, h.po.fr h.db hF, h.bx.fr hF, h.rs.fr hF, h.nb⟩
theorem WB.below {w wx w' : World} {D : Nat} {S S' : Nat → Prop} {u : Value} {d : Drawn} {b p q B R : Nat} {s9 z : Obj} (h : WB w wx D S S' u d b p q B R s9 z) (hb : Below wx.heap.size wx w') : WB w w' D S S' u d b p q B R s9 z :=
  ⟨h.db.below hb, h.fr.below' hb, h.wh.below hb, h.pi.below hb, h.po.below hb, h.bx.below hb, h.rs.below hb, h.nb⟩
theorem WB.leave {w wx : World} {D : Nat} {S S' : Nat → Prop} {u : Value} {d : Drawn} {b p q q' o' B R : Nat} {s9 z : Obj} (h : WB w wx D S S' u d b p q B R s9 z) (hq : PtN wx D q' o') : WB w (wx.setCell ⟨b, 1, none⟩ (.pointer (some ⟨q', 0, none⟩))) D S S' u (d.1, d.2.1, o') b p q' B R s9 z :=
  ⟨h.db.set h.wh (by decide) (by decide) _, h.fr.set h.nb.1 _, h.wh.set _, h.pi.set h.wh (by decide) _, hq.set h.wh (by decide) _, h.bx.other h.nb.2.1 _, h.rs.other h.nb.2.2 _, h.nb⟩
set_option maxRecDepth 100000 in
set_option maxHeartbeats 16000000 in
theorem drawSeq (ss : List StepD) (u : Value) (wp : World) (f : Nat) (he : Env ss u wp) (hDG : DG ss u wp f) (D : Nat) (S : Nat → Prop) (g : GraphD) (k : Nat) (hk : k < ss.length) (kv vc ve : Value) (w : World) (hwp : wp.heap.size + 1 ≤ D) (hb : Below wp.heap.size wp w) (h : DB w D S u g) (hg : Good g) (hp : PCells wp ss k hk kv vc ve) (hd : 8 ≤ f + 1 + deepG ss k) (hn : g.nodes.length + NB (f + 1) ≤ 1000000000000) (hfb : g.flows.length + FB (f + 1) ≤ 1000000000000) (hL : 0 < (kidsL ss k).length) :
    Calls Tryz.prog 42 #[.pointer (some ⟨D, 0, none⟩), pstep ss k hk kv vc ve] w (SPost D S u (seqG (stepG ss f) ss g k) w) := by
  have hpf := he.pf
  have hl := he.len
  have hkl := kids_le hl k
  have HKM : Hid (∀ (m : Nat) (hm : m < (kidsL ss k).length), (kidsL ss k)[m] < ss.length ∧ 8 ≤ f + deepG ss (kidsL ss k)[m]) := hid (fun m hm => by
    have h1 := kid_mem (List.getElem_mem hm)
    have h2 := kid_deep hpf hk (List.getElem_mem hm)
    exact ⟨h1.1, by omega⟩)
  have HOR : ∀ g, Good g → ∀ m, m < (kidsL ss k).length → Ord g (stepG ss f g ((kidsL ss k).getD m 0)).1 (stepG ss f g ((kidsL ss k).getD m 0)).2.1 (stepG ss f g ((kidsL ss k).getD m 0)).2.2 := fun g hg m hm => by
    rw [gd hm]
    exact step_ord hpf f g _ (HKM.out m hm).1 (HKM.out m hm).2 hg
  have hNB : NB (f + 1) = 3 + 24 * NB f := rfl
  have hFB : FB (f + 1) = 48 + 24 * FB f := rfl
  obtain ⟨q0, hq0⟩ : ∃ q, q = stepG ss f g (kidsL ss k)[0] := ⟨_, rfl⟩
  obtain ⟨SQ, hSQ⟩ : ∃ M, M = seqN (stepG ss f) (kidsL ss k) q0.1 q0.2.2 := ⟨_, rfl⟩
  have HS0 : Hid (SQ 0 = (q0.1, q0.2.2)) := hid (by rw [hSQ]; rfl)
  have HSS : Hid (∀ m (hm : m + 1 < (kidsL ss k).length), SQ (m + 1) = (addF (stepG ss f (SQ m).1 (kidsL ss k)[m + 1]).1 ⟨((SQ m).2 : Int), ((stepG ss f (SQ m).1 (kidsL ss k)[m + 1]).2.1 : Int), []⟩, (stepG ss f (SQ m).1 (kidsL ss k)[m + 1]).2.2)) := hid (fun m hm => by rw [hSQ]; simp only [seqN]; rw [gd hm])
  have HEQ : Hid (seqG (stepG ss f) ss g k = ((SQ ((kidsL ss k).length - 1)).1, q0.2.1, (SQ ((kidsL ss k).length - 1)).2)) := hid (by rw [hSQ, hq0]; unfold seqG; rw [gd hL])
  have hO0 : Ord g q0.1 q0.2.1 q0.2.2 := by
    have := HOR g hg 0 hL
    rw [gd hL, ← hq0] at this
    exact this
  have HO : Hid (∀ m, m + 1 ≤ (kidsL ss k).length → Ord g (SQ m).1 q0.2.1 (SQ m).2 ∧ Good (SQ m).1) := hid (fun m hm => by
    have := seqN_ord hg HOR hO0 m hm
    rw [← hSQ] at this
    exact ⟨this, this.good hg⟩)
  have hfew := step_few hl f
  have h0 := hfew g (kidsL ss k)[0]
  rw [← hq0] at h0
  have hsf := fun m => seq_few (ks := kidsL ss k) (g := q0.1) (o := q0.2.2) hfew m
  rw [← hSQ] at hsf
  have BL : Hid (∀ m, m + 1 < (kidsL ss k).length → (SQ m).1.nodes.length + NB f ≤ 1000000000000 ∧ (SQ m).1.flows.length + FB f ≤ 1000000000000) := hid (fun m hm => by
    obtain ⟨h1, h2, h4⟩ := hsf m
    have e1 : m * NB f ≤ 22 * NB f := Nat.mul_le_mul_right _ (by omega)
    have e2 : m * (FB f + 1) ≤ 22 * (FB f + 1) := Nat.mul_le_mul_right _ (by omega)
    have := h0.n
    have := h0.f
    omega)
  have BG : Hid (g.nodes.length + NB f ≤ 1000000000000 ∧ g.flows.length + FB f ≤ 1000000000000) := hid (by omega)
  obtain ⟨bk, ck, rfl, hbk, hck1, hck2, hkids⟩ := kids_at hp.kids hL
  obtain ⟨_, ⟨ac, cc, rfl⟩, ae, ce, rfl⟩ := pc_slices hp
  obtain ⟨gs, cu, rfl, hgs, _⟩ := step_at he.at' hb
  have hb0 : Below w.heap.size w ((w.alloc (.cells #[.int .i64 (k : Int), .int .i64 ((path ss (k + 1)).length : Int), .slice (some ⟨bk, 0, none⟩) (kidsL ss k).length ck, .int .i64 ss[k].kind, .int .i64 ss[k].parent, .string ss[k].name, .int .i64 ss[k].arg, .slice ac ss[k].cond.length cc, .slice ae ss[k].expr.length ce] 61)).alloc (.cells #[.pointer none, .pointer none] 63)) := ((Below.refl _ w).alloc (Nat.le_refl _) _).alloc (by simp) _
  have HW0 := hid hb0
  have HWD := hid hb0.drew
  have HBp := hid (hb.trans (hb0.mono hb.size))
  have HDp := hid (h.below hb0)
  have HLp := hid ((h.new (.cells #[.int .i64 (k : Int), .int .i64 ((path ss (k + 1)).length : Int), .slice (some ⟨bk, 0, none⟩) (kidsL ss k).length ck, .int .i64 ss[k].kind, .int .i64 ss[k].parent, .string ss[k].name, .int .i64 ss[k].arg, .slice ac ss[k].cond.length cc, .slice ae ss[k].expr.length ce] 61)).below ((Below.refl _ _).alloc (Nat.le_refl _) (.cells #[.pointer none, .pointer none] 63)))
  have HRp : Hid (LB ((w.alloc (.cells #[.int .i64 (k : Int), .int .i64 ((path ss (k + 1)).length : Int), .slice (some ⟨bk, 0, none⟩) (kidsL ss k).length ck, .int .i64 ss[k].kind, .int .i64 ss[k].parent, .string ss[k].name, .int .i64 ss[k].arg, .slice ac ss[k].cond.length cc, .slice ae ss[k].expr.length ce] 61)).alloc (.cells #[.pointer none, .pointer none] 63)) D S (w.heap.size + 1) (.cells #[.pointer none, .pointer none] 63)) := hid (by
    have := (h.below ((Below.refl _ w).alloc (Nat.le_refl _) (.cells #[.int .i64 (k : Int), .int .i64 ((path ss (k + 1)).length : Int), .slice (some ⟨bk, 0, none⟩) (kidsL ss k).length ck, .int .i64 ss[k].kind, .int .i64 ss[k].parent, .string ss[k].name, .int .i64 ss[k].arg, .slice ac ss[k].cond.length cc, .slice ae ss[k].expr.length ce] 61))).new (.cells #[.pointer none, .pointer none] 63)
    rw [World.size_alloc] at this
    exact this)
  have HB0 : Hid (Below wp.heap.size wp ((w.alloc (.cells #[.int .i64 (k : Int), .int .i64 ((path ss (k + 1)).length : Int), .slice (some ⟨bk, 0, none⟩) (kidsL ss k).length ck, .int .i64 ss[k].kind, .int .i64 ss[k].parent, .string ss[k].name, .int .i64 ss[k].arg, .slice ac ss[k].cond.length cc, .slice ae ss[k].expr.length ce] 61)).alloc (.cells #[.pointer none, .pointer none] 63)).drew) := hid ((hb.trans (hb0.mono hb.size)).drew)
  have HD0 : Hid (DB ((w.alloc (.cells #[.int .i64 (k : Int), .int .i64 ((path ss (k + 1)).length : Int), .slice (some ⟨bk, 0, none⟩) (kidsL ss k).length ck, .int .i64 ss[k].kind, .int .i64 ss[k].parent, .string ss[k].name, .int .i64 ss[k].arg, .slice ac ss[k].cond.length cc, .slice ae ss[k].expr.length ce] 61)).alloc (.cells #[.pointer none, .pointer none] 63)).drew D S (.slice (some ⟨gs, 0, none⟩) ss.length cu) g) := hid ((h.below hb0).below ((Below.refl _ _).drew))
  have HLB : Hid (LB ((w.alloc (.cells #[.int .i64 (k : Int), .int .i64 ((path ss (k + 1)).length : Int), .slice (some ⟨bk, 0, none⟩) (kidsL ss k).length ck, .int .i64 ss[k].kind, .int .i64 ss[k].parent, .string ss[k].name, .int .i64 ss[k].arg, .slice ac ss[k].cond.length cc, .slice ae ss[k].expr.length ce] 61)).alloc (.cells #[.pointer none, .pointer none] 63)).drew D S w.heap.size (.cells #[.int .i64 (k : Int), .int .i64 ((path ss (k + 1)).length : Int), .slice (some ⟨bk, 0, none⟩) (kidsL ss k).length ck, .int .i64 ss[k].kind, .int .i64 ss[k].parent, .string ss[k].name, .int .i64 ss[k].arg, .slice ac ss[k].cond.length cc, .slice ae ss[k].expr.length ce] 61)) := hid (((h.new _).below ((Below.refl _ _).alloc (Nat.le_refl _) _)).below ((Below.refl _ _).drew))
  have HLR : Hid (LB ((w.alloc (.cells #[.int .i64 (k : Int), .int .i64 ((path ss (k + 1)).length : Int), .slice (some ⟨bk, 0, none⟩) (kidsL ss k).length ck, .int .i64 ss[k].kind, .int .i64 ss[k].parent, .string ss[k].name, .int .i64 ss[k].arg, .slice ac ss[k].cond.length cc, .slice ae ss[k].expr.length ce] 61)).alloc (.cells #[.pointer none, .pointer none] 63)).drew D S (w.heap.size + 1) (.cells #[.pointer none, .pointer none] 63)) := hid (by
    have := (h.below ((Below.refl _ w).alloc (Nat.le_refl _) (.cells #[.int .i64 (k : Int), .int .i64 ((path ss (k + 1)).length : Int), .slice (some ⟨bk, 0, none⟩) (kidsL ss k).length ck, .int .i64 ss[k].kind, .int .i64 ss[k].parent, .string ss[k].name, .int .i64 ss[k].arg, .slice ac ss[k].cond.length cc, .slice ae ss[k].expr.length ce] 61))).new (.cells #[.pointer none, .pointer none] 63)
    rw [World.size_alloc] at this
    exact this.below ((Below.refl _ _).drew))
  have HHX : Hid (∀ (j i : Nat) (hi : i < (kidsL ss k).length) (hj : j < ss.length), j = (kidsL ss k)[i] → ∃ a1 n1 c1 a2 n2 c2 a3 n3 c3, PCells wp ss j hj (.slice a1 n1 c1) (.slice a2 n2 c2) (.slice a3 n3 c3) ∧ ∀ wx, Below wp.heap.size wp wx → wx.cell? ⟨D, 0, none⟩ = some (.slice (some ⟨gs, 0, none⟩) ss.length cu) → wx.cell? ⟨w.heap.size, 2, none⟩ = some (.slice (some ⟨bk, 0, none⟩) (kidsL ss k).length ck) → HD wx D w.heap.size bk i gs j (.slice (some ⟨gs, 0, none⟩) ss.length cu) (.slice (some ⟨bk, 0, none⟩) (kidsL ss k).length ck) (.int .i64 (j : Int)) (.int .i64 ((path ss (j + 1)).length : Int)) (.slice a1 n1 c1) (.int .i64 (ss[j]'hj).kind) (.int .i64 (ss[j]'hj).parent) (.string (ss[j]'hj).name) (.int .i64 (ss[j]'hj).arg) (.slice a2 n2 c2) (.slice a3 n3 c3)) := hid (fun j i hi hj hji => by
    obtain ⟨g2, cu2, e2, hg2, hst⟩ := step_at (w := wp) he.at' (Below.refl _ _)
    obtain ⟨rfl, rfl⟩ : g2 = gs ∧ cu2 = cu := by simpa using e2.symm
    obtain ⟨kv2, vc2, ve2, hp2, c0, c1, c2, c3, c4, c5, c6, c7, c8⟩ := hst j hj
    obtain ⟨⟨a1, d1, rfl⟩, ⟨a2, d2, rfl⟩, a3, d3, rfl⟩ := pc_slices hp2
    refine ⟨a1, _, d1, a2, _, d2, a3, _, d3, hp2, fun wx hbx hd hb2 => ?_⟩
    exact ⟨hd, hb2, hji ▸ old_cell hbx hbk (hkids i hi), old_cell hbx hgs c0, old_cell hbx hgs c1, old_cell hbx hgs c2, old_cell hbx hgs c3, old_cell hbx hgs c4, old_cell hbx hgs c5, old_cell hbx hgs c6, old_cell hbx hgs c7, old_cell hbx hgs c8⟩)
  have hSg := hid hDG
  have HBw := hid hb
  have HDw := hid h
  have HGD := hid hg
  have HQ0 := hid hq0
  have hD0 := h.lt
  clear h hp hb hb0 he hDG hg hSQ hNB hFB hn hfb hd hsf hfew h0 hq0 hkids HOR hO0
  unfold pstep
  unfold sval
  generalize kidsL ss k = ks at *
  obtain ⟨j, hj0⟩ : ∃ j, j = ks[0] := ⟨_, rfl⟩
  have hkm := HKM.out 0 hL
  rw [← hj0] at hkm
  rw [← hj0] at HQ0
  have hj := hkm.1
  have hjd := hkm.2
  obtain ⟨a1, n1, c1, a2, n2, c2, a3, n3, c3, hpj, hHD⟩ := HHX.out j 0 hL hj hj0
  have HHD := hid hHD
  have HSF : Hid (∀ wx, Below wp.heap.size wp wx → DB wx D S (.slice (some ⟨gs, 0, none⟩) ss.length cu) g → Calls Tryz.prog 19 #[.pointer (some ⟨D, 0, none⟩), .agg #[.int .i64 (j : Int), .int .i64 ((path ss (j + 1)).length : Int), .slice a1 n1 c1, .int .i64 (ss[j]'hj).kind, .int .i64 (ss[j]'hj).parent, .string (ss[j]'hj).name, .int .i64 (ss[j]'hj).arg, .slice a2 n2 c2, .slice a3 n3 c3]] wx (SPost D S (.slice (some ⟨gs, 0, none⟩) ss.length cu) q0 wx)) := hid (fun wx hbx hDx => by
    rw [HQ0.out]
    exact hSg.out D S g j hj _ _ _ _ hwp hbx hDx HGD.out hpj hjd BG.out.1 BG.out.2)
  have hhd := HHD.out _ HB0.out HD0.out.u (HLB.out.cell 2)
  have hL' : (0 : Int) < (ks.length : Int) := by omega
  have hj' : (j : Int) < (ss.length : Int) := by omega
  clear hkm hpj hHD hjd hj0
  go_enter Tryz.func42, Tryz.ntmps42
  go_wp2_with fail
  go_cut [5] from 9 (fun s5 wx => ∃ b p q S', s5 = .pointer (some ⟨b, 0, none⟩) ∧ Hid (WB w wx D S S' (.slice (some ⟨gs, 0, none⟩) ss.length cu) ((SQ 0).1, q0.2.1, (SQ 0).2) b p q w.heap.size (w.heap.size + 1) (.cells #[.int .i64 (k : Int), .int .i64 ((path ss (k + 1)).length : Int), .slice (some ⟨bk, 0, none⟩) ks.length ck, .int .i64 ss[k].kind, .int .i64 ss[k].parent, .string ss[k].name, .int .i64 ss[k].arg, .slice ac ss[k].cond.length cc, .slice ae ss[k].expr.length ce] 61) (.cells #[.pointer none, .pointer none] 63)))
  case first =>
    refine wp_region_held_drew (S := fun wx => HD wx D w.heap.size bk 0 gs j (.slice (some ⟨gs, 0, none⟩) ss.length cu) (.slice (some ⟨bk, 0, none⟩) ks.length ck) (.int .i64 (j : Int)) (.int .i64 ((path ss (j + 1)).length : Int)) (.slice a1 n1 c1) (.int .i64 (ss[j]'hj).kind) (.int .i64 (ss[j]'hj).parent) (.string (ss[j]'hj).name) (.int .i64 (ss[j]'hj).arg) (.slice a2 n2 c2) (.slice a3 n3 c3)) (by kernel_rfl) hhd (fun hHeld => ?_)
    refine wpAnyH_take (i := 0) (oi := { dst := some 9, op := Go.Op.move (Go.Operand.tmp 0), type := 90, pos := "l06_graph.go:182", after := #[], guard := none }) (v := .pointer (some ⟨D, 0, none⟩)) rfl (by kernel_rfl) (by kernel_rfl) (by kernel_rfl) (fun _ _ _ h => h) (Or.inl ⟨by rfl, by intro w hSw; (try dsimp only at hSw); obtain ⟨s0, s1, s2, t0, t1, t2, t3, t4, t5, t6, t7, t8⟩ := hSw; go_simp⟩) (by assumption) ?_
    simp only [Act.put, List.setIfInBounds_toArray, List.set_cons_zero, List.set_cons_succ]
    refine wpAnyH_take (i := 1) (oi := { dst := some 10, op := Go.Op.move (Go.Operand.tmp 0), type := 90, pos := "l06_graph.go:182", after := #[], guard := none }) (v := .pointer (some ⟨D, 0, none⟩)) rfl (by kernel_rfl) (by kernel_rfl) (by kernel_rfl) (fun _ _ _ h => h) (Or.inl ⟨by rfl, by intro w hSw; (try dsimp only at hSw); obtain ⟨s0, s1, s2, t0, t1, t2, t3, t4, t5, t6, t7, t8⟩ := hSw; go_simp⟩) (by assumption) ?_
    simp only [Act.put, List.setIfInBounds_toArray, List.set_cons_zero, List.set_cons_succ]
    refine wpAnyH_take (i := 2) (oi := { dst := some 11, op := Go.Op.nilCheck (Go.Operand.tmp 10), type := 0, pos := "l06_graph.go:182", after := #[{ on := 1, ground := Go.Ground.data }], guard := none }) (v := .pointer (some ⟨D, 0, none⟩)) rfl (by kernel_rfl) (by kernel_rfl) (by kernel_rfl) (fun _ _ _ h => h) (Or.inl ⟨by rfl, by intro w hSw; (try dsimp only at hSw); obtain ⟨s0, s1, s2, t0, t1, t2, t3, t4, t5, t6, t7, t8⟩ := hSw; go_simp⟩) (by assumption) ?_
    simp only [Act.put, List.setIfInBounds_toArray, List.set_cons_zero, List.set_cons_succ]
    refine wpAnyH_take (i := 3) (oi := { dst := some 12, op := Go.Op.fieldAddr 54 (Go.Operand.tmp 11) 0, type := 0, pos := "l06_graph.go:182", after := #[{ on := 2, ground := Go.Ground.data }], guard := none }) (v := .pointer (some ⟨D, 0, none⟩)) rfl (by kernel_rfl) (by kernel_rfl) (by kernel_rfl) (fun _ _ _ h => h) (Or.inl ⟨by rfl, by intro w hSw; (try dsimp only at hSw); obtain ⟨s0, s1, s2, t0, t1, t2, t3, t4, t5, t6, t7, t8⟩ := hSw; go_simp⟩) (by assumption) ?_
    simp only [Act.put, List.setIfInBounds_toArray, List.set_cons_zero, List.set_cons_succ]
    refine wpAnyH_take (i := 4) (oi := { dst := some 13, op := Go.Op.load 48 (Go.Operand.tmp 12), type := 48, pos := "l06_graph.go:182", after := #[{ on := 3, ground := Go.Ground.data }], guard := none }) (v := .slice (some ⟨gs, 0, none⟩) ss.length cu) rfl (by kernel_rfl) (by kernel_rfl) (by kernel_rfl) (fun _ _ _ h => h) (Or.inl ⟨by rfl, by intro w hSw; (try dsimp only at hSw); obtain ⟨s0, s1, s2, t0, t1, t2, t3, t4, t5, t6, t7, t8⟩ := hSw; go_simp⟩) (by assumption) ?_
    simp only [Act.put, List.setIfInBounds_toArray, List.set_cons_zero, List.set_cons_succ]
    refine wpAnyH_take (i := 5) (oi := { dst := some 14, op := Go.Op.fieldAddr 61 (Go.Operand.tmp 3) 0, type := 0, pos := "l06_graph.go:182", after := #[], guard := none }) (v := .pointer (some ⟨w.heap.size, 0, none⟩)) rfl (by kernel_rfl) (by kernel_rfl) (by kernel_rfl) (fun _ _ _ h => h) (Or.inl ⟨by rfl, by intro w hSw; (try dsimp only at hSw); obtain ⟨s0, s1, s2, t0, t1, t2, t3, t4, t5, t6, t7, t8⟩ := hSw; go_simp⟩) (by assumption) ?_
    simp only [Act.put, List.setIfInBounds_toArray, List.set_cons_zero, List.set_cons_succ]
    refine wpAnyH_take (i := 6) (oi := { dst := some 15, op := Go.Op.fieldAddr 59 (Go.Operand.tmp 14) 2, type := 0, pos := "l06_graph.go:182", after := #[{ on := 5, ground := Go.Ground.data }], guard := none }) (v := .pointer (some ⟨w.heap.size, 2, none⟩)) rfl (by kernel_rfl) (by kernel_rfl) (by kernel_rfl) (fun _ _ _ h => h) (Or.inl ⟨by rfl, by intro w hSw; (try dsimp only at hSw); obtain ⟨s0, s1, s2, t0, t1, t2, t3, t4, t5, t6, t7, t8⟩ := hSw; go_simp⟩) (by assumption) ?_
    simp only [Act.put, List.setIfInBounds_toArray, List.set_cons_zero, List.set_cons_succ]
    refine wpAnyH_take (i := 7) (oi := { dst := some 16, op := Go.Op.load 57 (Go.Operand.tmp 15), type := 57, pos := "l06_graph.go:182", after := #[{ on := 6, ground := Go.Ground.data }], guard := none }) (v := .slice (some ⟨bk, 0, none⟩) ks.length ck) rfl (by kernel_rfl) (by kernel_rfl) (by kernel_rfl) (fun _ _ _ h => h) (Or.inl ⟨by rfl, by intro w hSw; (try dsimp only at hSw); obtain ⟨s0, s1, s2, t0, t1, t2, t3, t4, t5, t6, t7, t8⟩ := hSw; go_simp⟩) (by assumption) ?_
    simp only [Act.put, List.setIfInBounds_toArray, List.set_cons_zero, List.set_cons_succ]
    refine wpAnyH_take (i := 8) (oi := { dst := some 17, op := Go.Op.indexAddr 57 (Go.Operand.tmp 16) (Go.Operand.const (Go.Value.int Go.IntKind.i64 0)), type := 0, pos := "l06_graph.go:182", after := #[{ on := 7, ground := Go.Ground.data }], guard := none }) (v := .pointer (some ⟨bk, 0, none⟩)) rfl (by kernel_rfl) (by kernel_rfl) (by kernel_rfl) (fun _ _ _ h => h) (Or.inl ⟨by rfl, by intro w hSw; (try dsimp only at hSw); obtain ⟨s0, s1, s2, t0, t1, t2, t3, t4, t5, t6, t7, t8⟩ := hSw; go_simp⟩) (by assumption) ?_
    simp only [Act.put, List.setIfInBounds_toArray, List.set_cons_zero, List.set_cons_succ]
    refine wpAnyH_take (i := 9) (oi := { dst := some 18, op := Go.Op.load 2 (Go.Operand.tmp 17), type := 2, pos := "l06_graph.go:182", after := #[{ on := 8, ground := Go.Ground.data }], guard := none }) (v := .int .i64 (j : Int)) rfl (by kernel_rfl) (by kernel_rfl) (by kernel_rfl) (fun _ _ _ h => h) (Or.inl ⟨by rfl, by intro w hSw; (try dsimp only at hSw); obtain ⟨s0, s1, s2, t0, t1, t2, t3, t4, t5, t6, t7, t8⟩ := hSw; go_simp⟩) (by assumption) ?_
    simp only [Act.put, List.setIfInBounds_toArray, List.set_cons_zero, List.set_cons_succ]
    refine wpAnyH_take (i := 10) (oi := { dst := some 19, op := Go.Op.indexAddr 48 (Go.Operand.tmp 13) (Go.Operand.tmp 18), type := 0, pos := "l06_graph.go:182", after := #[{ on := 4, ground := Go.Ground.data }, { on := 9, ground := Go.Ground.data }], guard := none }) (v := .pointer (some ⟨gs, j * 9, none⟩)) rfl (by kernel_rfl) (by kernel_rfl) (by kernel_rfl) (fun _ _ _ h => h) (Or.inl ⟨by rfl, by intro w hSw; (try dsimp only at hSw); obtain ⟨s0, s1, s2, t0, t1, t2, t3, t4, t5, t6, t7, t8⟩ := hSw; go_simp⟩) (by assumption) ?_
    simp only [Act.put, List.setIfInBounds_toArray, List.set_cons_zero, List.set_cons_succ]
    refine wpAnyH_take (i := 11) (oi := { dst := some 20, op := Go.Op.load 61 (Go.Operand.tmp 19), type := 61, pos := "l06_graph.go:182", after := #[{ on := 10, ground := Go.Ground.data }], guard := none }) (v := .agg #[.int .i64 (j : Int), .int .i64 ((path ss (j + 1)).length : Int), .slice a1 n1 c1, .int .i64 (ss[j]'hj).kind, .int .i64 (ss[j]'hj).parent, .string (ss[j]'hj).name, .int .i64 (ss[j]'hj).arg, .slice a2 n2 c2, .slice a3 n3 c3]) rfl (by kernel_rfl) (by kernel_rfl) (by kernel_rfl) (fun _ _ _ h => h) (Or.inl ⟨by rfl, by intro w hSw; (try dsimp only at hSw); obtain ⟨s0, s1, s2, t0, t1, t2, t3, t4, t5, t6, t7, t8⟩ := hSw; go_simp⟩) (by assumption) ?_
    simp only [Act.put, List.setIfInBounds_toArray, List.set_cons_zero, List.set_cons_succ]
    refine wpAnyH_ready (rs := [12, 13]) (by kernel_rfl) (by simp) ?_
    refine (AllReadyH.cons (o := { dst := some 21, op := Go.Op.call { callee := Go.Callee.value (Go.Operand.func 19), args := #[Go.Operand.tmp 9, Go.Operand.tmp 20], argTypes := #[90, 61] }, type := 63, pos := "l06_graph.go:182", after := #[{ on := 0, ground := Go.Ground.data }, { on := 11, ground := Go.Ground.data }], guard := none }) rfl (fun K hK => ?_) (AllReadyH.cons (o := { dst := some 5, op := Go.Op.alloc 63, type := 0, pos := "l06_graph.go:182", after := #[], guard := none }) rfl (fun K hK => ?_) AllReadyH.nil))
    · go_simp
      go_at_call 19
      refine (HSF.out _ HB0.out HD0.out).mono ?_
      rintro e w3 ⟨p, q, S3, rfl, hG3, hF3, hp3, hq3⟩
      have hL3 := HLB.out.fr hF3
      have hR3 := HLR.out.fr hF3
      have hb3 := hF3.env HB0.out HD0.out hwp
      have hhd3 := HHD.out w3 hb3 hG3.u (hL3.cell 2)
      have HG3 := hid hG3
      have HF3 := hid hF3
      have HP3 := hid hp3
      have HQ3 := hid hq3
      have HL3 := hid hL3
      have HR3 := hid hR3
      have HB3 := hid hb3
      have hz3 : w.heap.size + 1 < w3.heap.size := HR3.out.lt
      clear hG3 hF3 hp3 hq3 hL3 hR3 hb3
      go_wp2_with fail
      refine hK.out _ _ hhd3 (fun hHeld => ?_)
      clear hK K
      try simp only [Act.put, List.setIfInBounds_toArray, List.set_cons_zero, List.set_cons_succ]
      refine wpAnyH_ready (rs := [13]) (by kernel_rfl) (by simp) ?_
      refine (AllReadyH.cons (o := { dst := some 5, op := Go.Op.alloc 63, type := 0, pos := "l06_graph.go:182", after := #[], guard := none }) rfl (fun K hK => ?_) AllReadyH.nil)
      go_simp
      have hal : ∀ o, Below w3.heap.size w3 (w3.alloc o) := fun o => (Below.refl _ w3).alloc (Nat.le_refl _) o
      have hN4 := HG3.out.new (.cells #[.pointer none, .pointer none] 63)
      have hhd4 : ∀ o, HD (w3.alloc o) D w.heap.size bk 0 gs j (.slice (some ⟨gs, 0, none⟩) ss.length cu) (.slice (some ⟨bk, 0, none⟩) ks.length ck) (.int .i64 (j : Int)) (.int .i64 ((path ss (j + 1)).length : Int)) (.slice a1 n1 c1) (.int .i64 (ss[j]'hj).kind) (.int .i64 (ss[j]'hj).parent) (.string (ss[j]'hj).name) (.int .i64 (ss[j]'hj).arg) (.slice a2 n2 c2) (.slice a3 n3 c3) := fun o => HHD.out (w3.alloc o) (HB3.out.trans ((hal o).mono HB3.out.size)) (HG3.out.below (hal o)).u ((HL3.out.below (hal o)).cell 2)
      refine hK.out _ _ (hhd4 _) (fun hHeld => ?_)
      clear hK K
      try simp only [Act.put, List.setIfInBounds_toArray, List.set_cons_zero, List.set_cons_succ]
      have z0 := hN4.cell 0
      have z1 := hN4.cell 1
      have y0 := hN4.free 0
      have y1 := hN4.free 1
      refine wpAnyH_ready (rs := [14]) (by kernel_rfl) (by simp) ?_
      refine (AllReadyH.cons (o := { dst := none, op := Go.Op.store 63 (Go.Operand.tmp 5) (Go.Operand.tmp 21), type := 0, pos := "l06_graph.go:182", after := #[{ on := 13, ground := Go.Ground.data }, { on := 12, ground := Go.Ground.data }, { on := 12, ground := Go.Ground.chain }, { on := 0, ground := Go.Ground.phase }, { on := 1, ground := Go.Ground.phase }, { on := 2, ground := Go.Ground.phase }, { on := 3, ground := Go.Ground.phase }, { on := 4, ground := Go.Ground.phase }, { on := 5, ground := Go.Ground.phase }, { on := 6, ground := Go.Ground.phase }, { on := 7, ground := Go.Ground.phase }, { on := 8, ground := Go.Ground.phase }, { on := 9, ground := Go.Ground.phase }, { on := 10, ground := Go.Ground.phase }, { on := 11, ground := Go.Ground.phase }, { on := 12, ground := Go.Ground.phase }, { on := 13, ground := Go.Ground.phase }], guard := none }) rfl (fun K hK => ?_) AllReadyH.nil)
      go_simp
      refine hK.out _ _ (hhd4 _) (fun hHeld => ?_)
      clear hK K
      try simp only [Act.put]
      refine wpAnyH_done (by kernel_rfl) ?_ _
      go_wp2_with fail
      go_meet
      exact ⟨_, p, q, S3, rfl, hid (by rw [HS0.out]; exact ⟨HG3.out.below (hal _), ((Fr.of_below HWD.out).trans HF3.out).below' (hal _), HG3.out.new _, HP3.out.below (hal _), HQ3.out.below (hal _), HL3.out.below (hal _), HR3.out.below (hal _), ⟨by omega, by omega, by omega⟩⟩)⟩
    · go_simp
      have hbA : Below ((w.alloc (.cells #[.int .i64 (k : Int), .int .i64 ((path ss (k + 1)).length : Int), .slice (some ⟨bk, 0, none⟩) ks.length ck, .int .i64 ss[k].kind, .int .i64 ss[k].parent, .string ss[k].name, .int .i64 ss[k].arg, .slice ac ss[k].cond.length cc, .slice ae ss[k].expr.length ce] 61)).alloc (.cells #[.pointer none, .pointer none] 63)).heap.size ((w.alloc (.cells #[.int .i64 (k : Int), .int .i64 ((path ss (k + 1)).length : Int), .slice (some ⟨bk, 0, none⟩) ks.length ck, .int .i64 ss[k].kind, .int .i64 ss[k].parent, .string ss[k].name, .int .i64 ss[k].arg, .slice ac ss[k].cond.length cc, .slice ae ss[k].expr.length ce] 61)).alloc (.cells #[.pointer none, .pointer none] 63)) (((w.alloc (.cells #[.int .i64 (k : Int), .int .i64 ((path ss (k + 1)).length : Int), .slice (some ⟨bk, 0, none⟩) ks.length ck, .int .i64 ss[k].kind, .int .i64 ss[k].parent, .string ss[k].name, .int .i64 ss[k].arg, .slice ac ss[k].cond.length cc, .slice ae ss[k].expr.length ce] 61)).alloc (.cells #[.pointer none, .pointer none] 63)).alloc (.cells #[.pointer none, .pointer none] 63)).drew := ((Below.refl _ _).alloc (Nat.le_refl _) _).drew
      have HBA := hid (HBp.out.trans (hbA.mono HBp.out.size))
      have HDA := hid (HDp.out.below hbA)
      have HLA := hid (HLp.out.below hbA)
      have HRA := hid (HRp.out.below hbA)
      have HNA : Hid (LB (((w.alloc (.cells #[.int .i64 (k : Int), .int .i64 ((path ss (k + 1)).length : Int), .slice (some ⟨bk, 0, none⟩) ks.length ck, .int .i64 ss[k].kind, .int .i64 ss[k].parent, .string ss[k].name, .int .i64 ss[k].arg, .slice ac ss[k].cond.length cc, .slice ae ss[k].expr.length ce] 61)).alloc (.cells #[.pointer none, .pointer none] 63)).alloc (.cells #[.pointer none, .pointer none] 63)).drew D S (w.heap.size + 1 + 1) (.cells #[.pointer none, .pointer none] 63)) := hid (by have hn := HDp.out.new (.cells #[.pointer none, .pointer none] 63); rw [World.size_alloc, World.size_alloc] at hn; exact hn.below ((Below.refl _ _).drew))
      have HWA : Hid (Below w.heap.size w (((w.alloc (.cells #[.int .i64 (k : Int), .int .i64 ((path ss (k + 1)).length : Int), .slice (some ⟨bk, 0, none⟩) ks.length ck, .int .i64 ss[k].kind, .int .i64 ss[k].parent, .string ss[k].name, .int .i64 ss[k].arg, .slice ac ss[k].cond.length cc, .slice ae ss[k].expr.length ce] 61)).alloc (.cells #[.pointer none, .pointer none] 63)).alloc (.cells #[.pointer none, .pointer none] 63)).drew) := hid (HW0.out.trans (hbA.mono HW0.out.size))
      have hhdA := HHD.out _ HBA.out HDA.out.u (HLA.out.cell 2)
      clear hbA
      generalize (((w.alloc (.cells #[.int .i64 (k : Int), .int .i64 ((path ss (k + 1)).length : Int), .slice (some ⟨bk, 0, none⟩) ks.length ck, .int .i64 ss[k].kind, .int .i64 ss[k].parent, .string ss[k].name, .int .i64 ss[k].arg, .slice ac ss[k].cond.length cc, .slice ae ss[k].expr.length ce] 61)).alloc (.cells #[.pointer none, .pointer none] 63)).alloc (.cells #[.pointer none, .pointer none] 63)).drew = wA at *
      refine hK.out _ _ hhdA (fun hHeld => ?_)
      clear hK K
      try simp only [Act.put, List.setIfInBounds_toArray, List.set_cons_zero, List.set_cons_succ]
      refine wpAnyH_ready (rs := [12]) (by kernel_rfl) (by simp) ?_
      refine (AllReadyH.cons (o := { dst := some 21, op := Go.Op.call { callee := Go.Callee.value (Go.Operand.func 19), args := #[Go.Operand.tmp 9, Go.Operand.tmp 20], argTypes := #[90, 61] }, type := 63, pos := "l06_graph.go:182", after := #[{ on := 0, ground := Go.Ground.data }, { on := 11, ground := Go.Ground.data }], guard := none }) rfl (fun K hK => ?_) AllReadyH.nil)
      go_simp
      go_at_call 19
      refine (HSF.out _ HBA.out HDA.out).mono ?_
      rintro e w3 ⟨p, q, S3, rfl, hG3, hF3, hp3, hq3⟩
      have hL3 := HLA.out.fr hF3
      have hR3 := HRA.out.fr hF3
      have hb3 := hF3.env HBA.out HDA.out hwp
      have hhd3 := HHD.out w3 hb3 hG3.u (hL3.cell 2)
      have HG3 := hid hG3
      have HF3 := hid hF3
      have HP3 := hid hp3
      have HQ3 := hid hq3
      have HL3 := hid hL3
      have HR3 := hid hR3
      have HB3 := hid hb3
      have hz3 : w.heap.size + 1 < w3.heap.size := HR3.out.lt
      have hN4 := HNA.out.fr hF3
      clear hG3 hF3 hp3 hq3 hL3 hR3 hb3
      go_wp2_with fail
      refine hK.out _ _ hhd3 (fun hHeld => ?_)
      clear hK K
      try simp only [Act.put, List.setIfInBounds_toArray, List.set_cons_zero, List.set_cons_succ]
      have hM := hN4.set (i := 0) (.pointer (some ⟨p, 0, none⟩))
      have hM2 := hM.set (i := 1) (.pointer (some ⟨q, 0, none⟩))
      have hD5 := (HG3.out.set hN4 (i := 0) (by decide) (by decide) (.pointer (some ⟨p, 0, none⟩))).set hM (i := 1) (by decide) (by decide) (.pointer (some ⟨q, 0, none⟩))
      have hL5 := (HL3.out.other (c := w.heap.size + 1 + 1) (i := 0) (by omega) (.pointer (some ⟨p, 0, none⟩))).other (c := w.heap.size + 1 + 1) (i := 1) (by omega) (.pointer (some ⟨q, 0, none⟩))
      have hR5 := (HR3.out.other (c := w.heap.size + 1 + 1) (i := 0) (by omega) (.pointer (some ⟨p, 0, none⟩))).other (c := w.heap.size + 1 + 1) (i := 1) (by omega) (.pointer (some ⟨q, 0, none⟩))
      have hwps : wp.heap.size ≤ w.heap.size + 1 + 1 := by omega
      have hb5 := (HB3.out.setCell (p := ⟨w.heap.size + 1 + 1, 0, none⟩) hwps (.pointer (some ⟨p, 0, none⟩))).setCell (p := ⟨w.heap.size + 1 + 1, 1, none⟩) hwps (.pointer (some ⟨q, 0, none⟩))
      have hhd5 := HHD.out _ hb5 hD5.u (hL5.cell 2)
      have z0 := hN4.cell 0
      have z1 := hN4.cell 1
      have y0 := hN4.free 0
      have y1 := hN4.free 1
      refine wpAnyH_ready (rs := [14]) (by kernel_rfl) (by simp) ?_
      refine (AllReadyH.cons (o := { dst := none, op := Go.Op.store 63 (Go.Operand.tmp 5) (Go.Operand.tmp 21), type := 0, pos := "l06_graph.go:182", after := #[{ on := 13, ground := Go.Ground.data }, { on := 12, ground := Go.Ground.data }, { on := 12, ground := Go.Ground.chain }, { on := 0, ground := Go.Ground.phase }, { on := 1, ground := Go.Ground.phase }, { on := 2, ground := Go.Ground.phase }, { on := 3, ground := Go.Ground.phase }, { on := 4, ground := Go.Ground.phase }, { on := 5, ground := Go.Ground.phase }, { on := 6, ground := Go.Ground.phase }, { on := 7, ground := Go.Ground.phase }, { on := 8, ground := Go.Ground.phase }, { on := 9, ground := Go.Ground.phase }, { on := 10, ground := Go.Ground.phase }, { on := 11, ground := Go.Ground.phase }, { on := 12, ground := Go.Ground.phase }, { on := 13, ground := Go.Ground.phase }], guard := none }) rfl (fun K hK => ?_) AllReadyH.nil)
      go_simp
      refine hK.out _ _ hhd5 (fun hHeld => ?_)
      clear hK K
      try simp only [Act.put]
      refine wpAnyH_done (by kernel_rfl) ?_ _
      go_wp2_with fail
      go_meet
      exact ⟨_, p, q, S3, rfl, hid (by rw [HS0.out]; exact ⟨hD5, (((Fr.of_below HWA.out).trans HF3.out).set (by omega) _).set (by omega) _, hM2, (HP3.out.set hN4 (by decide) _).set hM (by decide) _, (HQ3.out.set hN4 (by decide) _).set hM (by decide) _, hL5, hR5, ⟨by omega, by omega, by omega⟩⟩)⟩
  case rest =>
    obtain ⟨b, p, q, S1, rfl, HW1⟩ := hcut
    have b2 := HW1.out.bx.cell 2
    clear HSF HHD hhd HLB HLR HD0 HB0 HW0 HWD HBp HDp HLp HRp HQ0 hL'
    rcases Nat.lt_or_ge 1 ck with hc1 | hc1
    · have q1 : (1 : Int) ≤ (ck : Int) := by omega
      have q2 : (1 : Int) ≤ (ks.length : Int) := by omega
      have q3 : ¬ (1 : Nat) = ck := by omega
      go_wp2_with fail
      go_loopw [7, 8, 27] (fun _ _ i wr => ∃ (m q' : Nat), i = .int .i64 (m : Int) ∧ m + 1 ≤ ks.length ∧ Hid (∃ S', WB w wr D S S' (.slice (some ⟨gs, 0, none⟩) ss.length cu) ((SQ m).1, q0.2.1, (SQ m).2) b p q' w.heap.size (w.heap.size + 1) (.cells #[.int .i64 (k : Int), .int .i64 ((path ss (k + 1)).length : Int), .slice (some ⟨bk, 0, none⟩) ks.length ck, .int .i64 ss[k].kind, .int .i64 ss[k].parent, .string ss[k].name, .int .i64 ss[k].arg, .slice ac ss[k].cond.length cc, .slice ae ss[k].expr.length ce] 61) (.cells #[.pointer none, .pointer none] 63))) (fun _ _ i _ => ks.length - (intOf i).toNat)
      case atStart => exact ⟨0, q, rfl, by omega, hid ⟨S1, HW1.out⟩⟩
      case round =>
        obtain ⟨m, q', rfl, hm, HX⟩ := hrel
        obtain ⟨S2, hW2⟩ := HX.out
        have HW := hid hW2
        clear hW2 HX b2
        by_cases hmt : m + 1 < ks.length
        · have qx : (m : Int) < ((ks.length - 1 : Nat) : Int) := by omega
          have HMN := hid (HSS.out m hmt)
          have hBL := BL.out m hmt
          obtain ⟨hO1, hO2⟩ := HO.out m (by omega)
          have HO3 := hid (HO.out (m + 1) (by omega)).1
          have hkm := HKM.out (m + 1) hmt
          obtain ⟨j2, hj2⟩ : ∃ j, j = ks[m + 1] := ⟨_, rfl⟩
          rw [← hj2] at hkm HMN
          obtain ⟨a1, n1, c1, a2, n2, c2, a3, n3, c3, hpj, hHD⟩ := HHX.out j2 (m + 1) hmt hkm.1 hj2
          have hbw := HW.out.fr.env HBw.out HDw.out hwp
          obtain ⟨d0, b2, kk, t0, t1, t2, t3, t4, t5, t6, t7, t8⟩ := hHD wr hbw HW.out.db.u (HW.out.bx.cell 2)
          rw [Nat.add_comm] at kk
          have HOQ := hid (step_ord hpf f (SQ m).1 j2 hkm.1 hkm.2 hO2)
          have HSTP := hid (hSg.out D S2 (SQ m).1 j2 hkm.1 _ _ _ wr hwp hbw HW.out.db hO2 hpj hkm.2 hBL.1 hBL.2)
          obtain ⟨qd, hqd⟩ : ∃ q, q = stepG ss f (SQ m).1 j2 := ⟨_, rfl⟩
          rw [← hqd] at HSTP HMN HOQ
          have hjj : (j2 : Int) < (ss.length : Int) := by have := hkm.1; omega
          have hzk := cell_lt kk
          have hzg := cell_lt t0
          have hzd := HW.out.db.lt
          unfold pstep at HSTP
          unfold sval at HSTP
          have HOB := hid (show (SQ m).2 ≤ 100000000000000 ∧ qd.2.1 ≤ 100000000000000 from ⟨by have := hO1.o2; omega, by have := HOQ.out.i; omega⟩)
          clear hO1 hO2 hBL hpj hHD hqd hbw hj2 b2
          go_wp2_with fail
          refine HSTP.out.mono ?_
          rintro e w4 ⟨p2, q2, S4, rfl, hG4, hF4, hp4, hq4⟩
          have HW4 := hid (HW.out.turn hG4 hF4)
          have hal : Below w4.heap.size w4 (w4.alloc (.cells #[.pointer (some ⟨p2, 0, none⟩), .pointer (some ⟨q2, 0, none⟩)] 63)) := (Below.refl _ w4).alloc (Nat.le_refl _) _
          have HW5 := hid (HW4.out.below hal)
          have HN5 := hid (hG4.new (.cells #[.pointer (some ⟨p2, 0, none⟩), .pointer (some ⟨q2, 0, none⟩)] 63))
          have HP5 := hid (hp4.below hal)
          have HQ5 := hid (hq4.below hal)
          have x1 := HW4.out.wh.cell 1
          have hzb := HW4.out.wh.lt
          clear hG4 hF4 hp4 hq4 hal HW HSTP d0 kk t0 t1 t2 t3 t4 t5 t6 t7 t8 hzk hzg hzd
          go_wp2_with fail
          have HAF := hid (addFlow D S4 (.slice (some ⟨gs, 0, none⟩) ss.length cu) qd.1 q' p2 (SQ m).2 qd.2.1 [] (.slice none 0 0) _ HW5.out.db HW5.out.po HP5.out (row_nil _ _ _ _) (Nat.zero_le _) (by have := HO3.out.srt; rw [HMN.out] at this; exact this) HOB.out.1 HOB.out.2)
          have hzn : w4.heap.size < (w4.alloc (.cells #[.pointer (some ⟨p2, 0, none⟩), .pointer (some ⟨q2, 0, none⟩)] 63)).heap.size := by simp
          obtain ⟨nn, hnn⟩ : ∃ n, n = w4.heap.size := ⟨_, rfl⟩
          rw [← hnn] at HN5
          rw [← hnn]
          clear x1 hzb hnn hzn
          generalize w4.alloc (.cells #[.pointer (some ⟨p2, 0, none⟩), .pointer (some ⟨q2, 0, none⟩)] 63) = w5 at *
          refine HAF.out.mono ?_
          rintro e w6 ⟨⟨r6, rfl⟩, S6, hG6, hF6⟩
          have HW6 := hid (HW5.out.turn hG6 hF6)
          have HN6 := hid (HN5.out.fr hF6)
          have HQ6 := hid (HQ5.out.fr HW5.out.db hF6)
          clear hG6 hF6 HW5 HN5 HP5 HQ5 HAF HW4
          have x1 := HW6.out.wh.cell 1
          have x2 := HW6.out.wh.free 1
          have n1 := HN6.out.cell 1
          go_wp2
          have hL := HW6.out.leave HQ6.out
          exact ⟨⟨m + 1, q2, by simp, by omega, hid ⟨S6, by rw [HMN.out]; exact hL⟩⟩, by simp [intOf]; omega⟩
        · have qx : ¬ (m : Int) < ((ks.length - 1 : Nat) : Int) := by omega
          have HME := hid (show ks.length - 1 = m by omega)
          have w0c := HW.out.wh.cell 0
          have w1c := HW.out.wh.cell 1
          have r0 := HW.out.rs.cell 0
          have r1 := HW.out.rs.cell 1
          have f0 := HW.out.rs.free 0
          have f1 := HW.out.rs.free 1
          go_wp2
          have hM := HW.out.rs.set (i := 0) (.pointer (some ⟨p, 0, none⟩))
          have hM2 := hM.set (i := 1) (.pointer (some ⟨q', 0, none⟩))
          have g0 := hM2.cell 0
          have g1 := hM2.cell 1
          refine bodyPost_ret (v := .agg #[.pointer (some ⟨p, 0, none⟩), .pointer (some ⟨q', 0, none⟩)]) (by simp [results, Tryz.results42, go_sem, g0, g1]) rfl ?_
          rw [HEQ.out, HME.out]
          exact ⟨p, q', S2, rfl, (HW.out.db.set HW.out.rs (by decide) (by decide) _).set hM (by decide) (by decide) _, (HW.out.fr.set (by omega) _).set (by omega) _, (HW.out.pi.set HW.out.rs (by decide) _).set hM (by decide) _, (HW.out.po.set HW.out.rs (by decide) _).set hM (by decide) _⟩
    · have e1 : ks.length = 1 := by omega
      have e2 : ck = 1 := by omega
      have q1 : (1 : Int) ≤ (ck : Int) := by omega
      have q2 : (1 : Int) ≤ (ks.length : Int) := by omega
      clear hc1
      go_wp2_with fail
      go_loopw [7, 8, 27] (fun _ _ i wr => ∃ (m q' : Nat), i = .int .i64 (m : Int) ∧ m + 1 ≤ ks.length ∧ Hid (∃ S', WB w wr D S S' (.slice (some ⟨gs, 0, none⟩) ss.length cu) ((SQ m).1, q0.2.1, (SQ m).2) b p q' w.heap.size (w.heap.size + 1) (.cells #[.int .i64 (k : Int), .int .i64 ((path ss (k + 1)).length : Int), .slice (some ⟨bk, 0, none⟩) ks.length ck, .int .i64 ss[k].kind, .int .i64 ss[k].parent, .string ss[k].name, .int .i64 ss[k].arg, .slice ac ss[k].cond.length cc, .slice ae ss[k].expr.length ce] 61) (.cells #[.pointer none, .pointer none] 63))) (fun _ _ i _ => ks.length - (intOf i).toNat)
      case atStart => exact ⟨0, q, rfl, by omega, hid ⟨S1, HW1.out⟩⟩
      case round =>
        obtain ⟨m, q', rfl, hm, HX⟩ := hrel
        obtain ⟨S2, hW2⟩ := HX.out
        have HW := hid hW2
        clear hW2 HX b2
        have hm0 : m = 0 := by omega
        have qx : ¬ (m : Int) < ((ks.length - 1 : Nat) : Int) := by omega
        have HME := hid (show ks.length - 1 = m by omega)
        have w0c := HW.out.wh.cell 0
        have w1c := HW.out.wh.cell 1
        have r0 := HW.out.rs.cell 0
        have r1 := HW.out.rs.cell 1
        have f0 := HW.out.rs.free 0
        have f1 := HW.out.rs.free 1
        go_wp2
        have hM := HW.out.rs.set (i := 0) (.pointer (some ⟨p, 0, none⟩))
        have hM2 := hM.set (i := 1) (.pointer (some ⟨q', 0, none⟩))
        have g0 := hM2.cell 0
        have g1 := hM2.cell 1
        refine bodyPost_ret (v := .agg #[.pointer (some ⟨p, 0, none⟩), .pointer (some ⟨q', 0, none⟩)]) (by simp [results, Tryz.results42, go_sem, g0, g1]) rfl ?_
        rw [HEQ.out, HME.out]
        exact ⟨p, q', S2, rfl, (HW.out.db.set HW.out.rs (by decide) (by decide) _).set hM (by decide) (by decide) _, (HW.out.fr.set (by omega) _).set (by omega) _, (HW.out.pi.set HW.out.rs (by decide) _).set hM (by decide) _, (HW.out.po.set HW.out.rs (by decide) _).set hM (by decide) _⟩
end Gr
end Go.Proofs.YtfgckeoigkoflaaGreatDoor
