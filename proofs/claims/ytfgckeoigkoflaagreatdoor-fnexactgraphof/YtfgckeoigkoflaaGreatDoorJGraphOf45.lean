/- The program's drawSides, over what it draws of the kids. -/
import Derived.Test.YtfgckeoigkoflaaGreatDoorJGraphOf44
namespace Go.Proofs.YtfgckeoigkoflaaGreatDoor
open Go.RowKit
set_option linter.unusedVariables false
namespace Gr
open Ex (hid nvals at_of_owns owns_keep inR)
open Nd (NodeD)
open Gn (GNodeD)
open Fl (FlowD)
open St (StepD)
open Nst (own)
open Pf (PJ PJ_eq kidsL pFault PAt PCells KidsAt path)
open Pt (kidVals)
open Rc
/-- Amid the kids: the graph so far, what leaves each kid. -/
structure SD (w wx : World) (D : Nat) (S S' : Nat → Prop) (u : Value) (gm : GraphD) (e a : Nat) (vo : Value) (po : Nat → Nat) (outs : List Nat) (B R : Nat) (s9 z : Obj) : Prop where
  db : DB wx D S' u gm
  fr : Fr w wx D S S'
  en : PtN wx D e a
  bx : LB wx D S' B s9
  rs : LB wx D S' R z
  row : wx.ownsRow w.heap.size 55 1 vo outs.length (ptrs po outs.length)
  vb : ∀ b, own vo b → ¬ S' b ∧ b ≠ D ∧ b ≠ B ∧ b ≠ R
  pt : ∀ i (h : i < outs.length), PtN wx D (po i) outs[i]
section
variable {w wx w' : World} {D : Nat} {S S' S'' : Nat → Prop} {u : Value} {gm g' : GraphD} {e a : Nat} {vo v' : Value} {po : Nat → Nat} {outs : List Nat} {B R p o : Nat} {s9 z : Obj}
theorem SD.turn (h : SD w wx D S S' u gm e a vo po outs B R s9 z) (hG : DB w' D S'' u g') (hF : Fr wx w' D S' S'') : SD w w' D S S'' u g' e a vo po outs B R s9 z :=
  ⟨hG, h.fr.trans hF, h.en.fr h.db hF, h.bx.fr hF, h.rs.fr hF, Nst.own_kept h.row (fun b e => hF.blk b (Nst.own_lt h.row e).2 (h.vb b e).2.1 (h.vb b e).1), fun b e => ⟨hF.ne (Nst.own_lt h.row e).2 (h.vb b e).1, (h.vb b e).2⟩, fun i hi => (h.pt i hi).fr h.db hF⟩
theorem SD.below (h : SD w wx D S S' u gm e a vo po outs B R s9 z) (hb : Below wx.heap.size wx w') : SD w w' D S S' u gm e a vo po outs B R s9 z :=
  ⟨h.db.below hb, h.fr.below' hb, h.en.below hb, h.bx.below hb, h.rs.below hb, owns_keep h.row hb, h.vb, fun i hi => (h.pt i hi).below hb⟩
/-- What leaves one more kid is put behind the others. -/
theorem SD.push {x : Value} (h : SD w wx D S S' u gm e a vo po outs B R s9 z) (hp : PtN wx D p o) (hBR : B < wx.heap.size ∧ R < wx.heap.size)
    (hown : w'.ownsRow w.heap.size 55 1 v' (outs.length + 1) (ptrs po outs.length ++ [.pointer (some ⟨p, 0, none⟩)])) (hg : (wx.alloc (.cells #[x] 55)).grownBy w' vo.ownBlock) (hat : v'.ownBlock = vo.ownBlock ∨ v'.ownBlock = some (wx.heap.size + 1)) :
    SD w w' D S S' u gm e a v' (fun i => if i = outs.length then p else po i) (outs ++ [o]) B R s9 z := by
  have hz : wx.heap.size + 1 ≤ w'.heap.size := by have := hg.size; simpa using this
  have hk : ∀ b, b < wx.heap.size → ¬ own vo b → w'.heap[b]? = wx.heap[b]? := fun b h1 h2 => (hg.block b (by simp; omega) (fun e => h2 e.symm)).trans (Below.heap_alloc wx _ b h1)
  have hvt : ∀ b, own vo b → ∃ cur, wx.heap[b]? = some (.cells cur 55 (0, 0)) := fun b e => by
    obtain ⟨h3, ⟨rfl, _⟩ | ⟨gg, cap, cur, rfl, _, h4, _⟩⟩ := h.row
    · cases e
    · obtain rfl : gg = b := Option.some.inj e
      exact ⟨cur, h4⟩
  have pk : ∀ {p n : Nat}, PtN wx D p n → PtN w' D p n := fun {p n} hq => by
    have hq' := hq
    obtain ⟨x, ve, h1, h2⟩ := hq
    refine ⟨x, ve, h1, (hk p hq'.lt.2 (fun e => ?_)).trans h2⟩
    obtain ⟨cur, h5⟩ := hvt p e
    rw [h2] at h5
    have := Option.some.inj h5
    simp at this
  have hdb : DB w' D S' u gm := by
    cases ho : vo.ownBlock with
    | none =>
      obtain ⟨vn, M, pn, E, fs, hx, hS⟩ := h.db
      exact ⟨vn, M, pn, E, fs, hx.keep (fun b hb => hk b hb (fun e => by unfold own at e; rw [ho] at e; cases e)), hS⟩
    | some c =>
      obtain ⟨cur, h5⟩ := hvt c ho
      exact h.db.other (c := c) ⟨h5, (h.vb c ho).2.1, (h.vb c ho).1⟩ (by decide) (by decide) (fun b hb hne => hk b hb (fun e => hne (Option.some.inj (e.symm.trans ho))))
  have hfr : Fr w w' D S S' := by
    have hF := h.fr
    refine ⟨hg.os.trans hF.os, hg.tape.trans hF.tape, hg.output.trans hF.output, by have := hF.size; omega, fun b h1 h2 h3 => ?_, hF.new⟩
    exact (hk b (by have := hF.size; omega) (fun e => by have := (Nst.own_lt h.row e).1; omega)).trans (hF.blk b h1 h2 h3)
  have hl : (outs ++ [o]).length = outs.length + 1 := by simp
  refine ⟨hdb, hfr, pk h.en, ⟨(hk B hBR.1 (fun e => (h.vb B e).2.2.1 rfl)).trans h.bx.at', h.bx.ne, h.bx.ns⟩, ⟨(hk R hBR.2 (fun e => (h.vb R e).2.2.2 rfl)).trans h.rs.at', h.rs.ne, h.rs.ns⟩, ?_, fun b e => ?_, fun i hi => ?_⟩
  · rw [hl, ptrs_succ, if_pos rfl, ptrs_congr (q := po) (fun j hj => if_neg (by omega))]
    exact hown
  · rcases hat with e2 | e2
    · exact h.vb b (by unfold own; rw [← e2]; exact e)
    · have : wx.heap.size + 1 = b := Option.some.inj (e2.symm.trans e)
      exact ⟨fun e3 => by have := (h.db.owns b e3).2; omega, by have := h.db.lt; omega, by omega, by omega⟩
  · have hi' : i < outs.length + 1 := by rw [← hl]; exact hi
    by_cases e : i = outs.length
    · subst e
      rw [if_pos rfl]
      simp only [List.getElem_append_right (Nat.le_refl _), Nat.sub_self, List.getElem_cons_zero]
      exact pk hp
    · rw [if_neg e, List.getElem_append_left (by omega)]
      exact pk (h.pt i (by omega))
end
/-- Where a kid's step lies, and what is read of it. -/
structure HE (w : World) (D n gs j : Nat) (u vc : Value) (p : Nat) : Prop where
  d0 : w.cell? ⟨D, 0, none⟩ = some u
  n0 : w.cell? ⟨n, 0, none⟩ = some (.pointer (some ⟨p, 0, none⟩))
  c7 : w.cell? ⟨gs, j * 9 + 7, none⟩ = some vc
set_option maxRecDepth 100000 in
set_option maxHeartbeats 32000000 in
theorem drawSides (ss : List StepD) (u : Value) (wp : World) (f : Nat) (he : Env ss u wp) (hDG : DG ss u wp f) (D : Nat) (S : Nat → Prop) (g : GraphD) (k : Nat) (hk : k < ss.length) (kv vc ve : Value) (w : World) (hwp : wp.heap.size + 1 ≤ D) (hb : Below wp.heap.size wp w) (h : DB w D S u g) (hg : Good g) (hp : PCells wp ss k hk kv vc ve) (hd : 8 ≤ f + 1 + deepG ss k) (hn : g.nodes.length + NB (f + 1) ≤ 1000000000000) (hfb : g.flows.length + FB (f + 1) ≤ 1000000000000) (hL : 0 < (kidsL ss k).length) (fi la : Int) (hfi : fi = 7 ∨ fi = 9) (hla : la = 8 ∨ la = 10) :
    Calls Tryz.prog 43 #[.pointer (some ⟨D, 0, none⟩), pstep ss k hk kv vc ve, .int .i64 fi, .int .i64 la] w (SPost D S u (manyG (stepG ss f) ss g k fi la) w) := by
  obtain ⟨j0, hj0, hy0, hy1, hy2⟩ := inf_parts2 infoPtr
  have hpf := he.pf
  have hl := he.len
  have hkl := kids_le hl k
  have HKM : Hid (∀ (m : Nat) (hm : m < (kidsL ss k).length), (kidsL ss k)[m] < ss.length ∧ 8 ≤ f + deepG ss (kidsL ss k)[m]) := hid (fun m hm => by
    have h1 := kid_mem (List.getElem_mem hm)
    have h2 := kid_deep hpf hk (List.getElem_mem hm)
    exact ⟨h1.1, by omega⟩)
  have HOR : ∀ g, Good g → ∀ m, m < (kidsL ss k).length → Ord g (stepG ss f g ((kidsL ss k).getD m 0)).1 (stepG ss f g ((kidsL ss k).getD m 0)).2.1 (stepG ss f g ((kidsL ss k).getD m 0)).2.2 := fun g hg m hm => by
    rw [gd hm]
    exact step_ord hpf f g _ (HKM.out m hm).1 (HKM.out m hm).2 hg
  have hNB : NB (f + 1) = 3 + 24 * NB f := rfl
  have hFB : FB (f + 1) = 48 + 24 * FB f := rfl
  have HMF := hid (fun m => many_few (ss := ss) (a := g.nodes.length) (ks := kidsL ss k) (g := addN g (bareN fi k)) (step_few hl f) m)
  have HMI := fun m hm => manyN_mi (ss := ss) hg HOR (bareN fi k) m hm
  obtain ⟨MN, hMN⟩ : ∃ M, M = manyN (stepG ss f) ss g.nodes.length (kidsL ss k) (addN g (bareN fi k)) := ⟨_, rfl⟩
  rw [← hMN] at HMF HMI
  have HM0 : Hid (MN 0 = (addN g (bareN fi k), [])) := hid (by rw [hMN]; rfl)
  have HMS : Hid (∀ m (hm : m < (kidsL ss k).length), MN (m + 1) = (addF (stepG ss f (MN m).1 (kidsL ss k)[m]).1 ⟨(g.nodes.length : Int), ((stepG ss f (MN m).1 (kidsL ss k)[m]).2.1 : Int), (PJ ss (kidsL ss k)[m]).cond⟩, (MN m).2 ++ [(stepG ss f (MN m).1 (kidsL ss k)[m]).2.2])) := hid (fun m hm => by rw [hMN]; simp only [manyN]; rw [gd hm])
  have HEQ : Hid (manyG (stepG ss f) ss g k fi la = (joinN (MN (kidsL ss k).length).2 (MN (kidsL ss k).length).1.nodes.length (addN (MN (kidsL ss k).length).1 (bareN la k)) (MN (kidsL ss k).length).2.length, g.nodes.length, (MN (kidsL ss k).length).1.nodes.length)) := hid (by rw [hMN]; rfl)
  have hle := addN_n g (bareN fi k)
  have hlf := addN_f g (bareN fi k)
  have BM : Hid (∀ m, m ≤ (kidsL ss k).length → (MN m).1.nodes.length ≤ 1000000000000 ∧ (MN m).2.length = m) := hid (fun m hm => by
    obtain ⟨h1, h2, h3, h4⟩ := HMF.out m
    have e1 : m * NB f ≤ 24 * NB f := Nat.mul_le_mul_right _ (by omega)
    omega)
  have BL : Hid (∀ m, m < (kidsL ss k).length → (MN m).1.nodes.length + NB f ≤ 1000000000000 ∧ (MN m).1.flows.length + FB f ≤ 1000000000000) := hid (fun m hm => by
    obtain ⟨h1, h2, h3, h4⟩ := HMF.out m
    have e1 : m * NB f ≤ 23 * NB f := Nat.mul_le_mul_right _ (by omega)
    have e2 : m * (FB f + 1) ≤ 23 * (FB f + 1) := Nat.mul_le_mul_right _ (by omega)
    rw [hlf] at h2
    omega)
  have HGM : Hid (∀ m, m ≤ (kidsL ss k).length → MI g (MN m).1 (MN m).2 ∧ Good (MN m).1) := hid (fun m hm => ⟨HMI m hm, (HMI m hm).good hg⟩)
  have HJS : Hid (∀ i, i ≤ (MN (kidsL ss k).length).2.length → Srt (joinN (MN (kidsL ss k).length).2 (MN (kidsL ss k).length).1.nodes.length (addN (MN (kidsL ss k).length).1 (bareN la k)) i).flows) := hid (fun i hi => by
    have hmi := HMI _ (Nat.le_refl (kidsL ss k).length)
    refine joinN_srt (g := addN (MN (kidsL ss k).length).1 (bareN la k)) hmi.srt (fun y hy o ho => ?_) hmi.nd i hi
    rw [addN_f] at hy
    have := hmi.ob o ho
    rcases hmi.fl y hy with q | ⟨e1, e2, e3, e4, e5⟩
    · have := hg.bd y q; omega
    · exact e3 o ho)
  have BN1 : Hid (g.nodes.length ≤ 1000000000000) := hid (by omega)
  obtain ⟨bk, ck, rfl, hbk, hck1, hck2, hkids⟩ := kids_at hp.kids hL
  obtain ⟨_, ⟨ac, cc, rfl⟩, ae, ce, rfl⟩ := pc_slices hp
  obtain ⟨gs, cu, rfl, hgs, _⟩ := step_at he.at' hb
  have hb0 : Below w.heap.size w ((w.alloc (.cells #[.int .i64 (k : Int), .int .i64 ((path ss (k + 1)).length : Int), .slice (some ⟨bk, 0, none⟩) (kidsL ss k).length ck, .int .i64 ss[k].kind, .int .i64 ss[k].parent, .string ss[k].name, .int .i64 ss[k].arg, .slice ac ss[k].cond.length cc, .slice ae ss[k].expr.length ce] 61)).alloc (.cells #[.pointer none, .pointer none] 63)) := ((Below.refl _ w).alloc (Nat.le_refl _) _).alloc (by simp) _
  have HW0 := hid hb0
  have HBp := hid (hb.trans (hb0.mono hb.size))
  have HDp := hid (h.below hb0)
  have HLp := hid ((h.new (.cells #[.int .i64 (k : Int), .int .i64 ((path ss (k + 1)).length : Int), .slice (some ⟨bk, 0, none⟩) (kidsL ss k).length ck, .int .i64 ss[k].kind, .int .i64 ss[k].parent, .string ss[k].name, .int .i64 ss[k].arg, .slice ac ss[k].cond.length cc, .slice ae ss[k].expr.length ce] 61)).below ((Below.refl _ _).alloc (Nat.le_refl _) (.cells #[.pointer none, .pointer none] 63)))
  have HRp : Hid (LB ((w.alloc (.cells #[.int .i64 (k : Int), .int .i64 ((path ss (k + 1)).length : Int), .slice (some ⟨bk, 0, none⟩) (kidsL ss k).length ck, .int .i64 ss[k].kind, .int .i64 ss[k].parent, .string ss[k].name, .int .i64 ss[k].arg, .slice ac ss[k].cond.length cc, .slice ae ss[k].expr.length ce] 61)).alloc (.cells #[.pointer none, .pointer none] 63)) D S (w.heap.size + 1) (.cells #[.pointer none, .pointer none] 63)) := hid (by
    have := (h.below ((Below.refl _ w).alloc (Nat.le_refl _) (.cells #[.int .i64 (k : Int), .int .i64 ((path ss (k + 1)).length : Int), .slice (some ⟨bk, 0, none⟩) (kidsL ss k).length ck, .int .i64 ss[k].kind, .int .i64 ss[k].parent, .string ss[k].name, .int .i64 ss[k].arg, .slice ac ss[k].cond.length cc, .slice ae ss[k].expr.length ce] 61))).new (.cells #[.pointer none, .pointer none] 63)
    rw [World.size_alloc] at this
    exact this)
  have HHX : Hid (∀ (j i : Nat) (hi : i < (kidsL ss k).length) (hj : j < ss.length), j = (kidsL ss k)[i] → ∃ a1 n1 c1 a2 n2 c2 a3 n3 c3, PCells wp ss j hj (.slice a1 n1 c1) (.slice a2 n2 c2) (.slice a3 n3 c3) ∧ ∀ wx, Below wp.heap.size wp wx → wx.cell? ⟨D, 0, none⟩ = some (.slice (some ⟨gs, 0, none⟩) ss.length cu) → wx.cell? ⟨w.heap.size, 2, none⟩ = some (.slice (some ⟨bk, 0, none⟩) (kidsL ss k).length ck) → HD wx D w.heap.size bk i gs j (.slice (some ⟨gs, 0, none⟩) ss.length cu) (.slice (some ⟨bk, 0, none⟩) (kidsL ss k).length ck) (.int .i64 (j : Int)) (.int .i64 ((path ss (j + 1)).length : Int)) (.slice a1 n1 c1) (.int .i64 (ss[j]'hj).kind) (.int .i64 (ss[j]'hj).parent) (.string (ss[j]'hj).name) (.int .i64 (ss[j]'hj).arg) (.slice a2 n2 c2) (.slice a3 n3 c3)) := hid (fun j i hi hj hji => by
    obtain ⟨g2, cu2, e2, hg2, hst⟩ := step_at (w := wp) he.at' (Below.refl _ _)
    obtain ⟨rfl, rfl⟩ : g2 = gs ∧ cu2 = cu := by simpa using e2.symm
    obtain ⟨kv2, vc2, ve2, hp2, c0, c1, c2, c3, c4, c5, c6, c7, c8⟩ := hst j hj
    obtain ⟨⟨a1, d1, rfl⟩, ⟨a2, d2, rfl⟩, a3, d3, rfl⟩ := pc_slices hp2
    refine ⟨a1, _, d1, a2, _, d2, a3, _, d3, hp2, fun wx hbx hd hb2 => ?_⟩
    exact ⟨hd, hb2, hji ▸ old_cell hbx hbk (hkids i hi), old_cell hbx hgs c0, old_cell hbx hgs c1, old_cell hbx hgs c2, old_cell hbx hgs c3, old_cell hbx hgs c4, old_cell hbx hgs c5, old_cell hbx hgs c6, old_cell hbx hgs c7, old_cell hbx hgs c8⟩)
  have HADD : Hid (∀ (S1 : Nat → Prop) (g1 : GraphD) (wx : World) (kd : Int), Below wp.heap.size wp wx → DB wx D S1 (.slice (some ⟨gs, 0, none⟩) ss.length cu) g1 → g1.nodes.length ≤ 1000000000000 → (kd = 7 ∨ kd = 8 ∨ kd = 9 ∨ kd = 10 ∨ kd = 12 ∨ kd = 13) → Calls Tryz.prog 18 #[.pointer (some ⟨D, 0, none⟩), .int .i64 kd, .agg #[.int .i64 (k : Int), .int .i64 ((path ss (k + 1)).length : Int), .slice (some ⟨bk, 0, none⟩) (kidsL ss k).length ck, .int .i64 ss[k].kind, .int .i64 ss[k].parent, .string ss[k].name, .int .i64 ss[k].arg, .slice ac ss[k].cond.length cc, .slice ae ss[k].expr.length ce]] wx (NPost D S1 (.slice (some ⟨gs, 0, none⟩) ss.length cu) g1 (bareN kd k) wx)) := hid (fun S1 g1 wx kd hbx hDx hnx hkd => addAt ss _ wp he D S1 g1 k hk _ _ _ wx hwp hbx hDx hp hnx kd (bareN kd k) (.inr (.inr (.inr ⟨hkd, rfl⟩))))
  have HCND : Hid (∀ j (hj : j < ss.length), ss[j].cond.length ≤ 100000) := hid he.cond
  have hSg := hid hDG
  have HBw := hid hb
  have HDw := hid h
  have hD0 := h.lt
  clear h hp hb hb0 he hDG hg hMN hNB hFB hn hfb hd hle hlf HMF hkids HOR HMI
  unfold pstep
  unfold sval
  generalize kidsL ss k = ks at *
  have HA1 := hid (HADD.out S g ((w.alloc (.cells #[.int .i64 (k : Int), .int .i64 ((path ss (k + 1)).length : Int), .slice (some ⟨bk, 0, none⟩) ks.length ck, .int .i64 ss[k].kind, .int .i64 ss[k].parent, .string ss[k].name, .int .i64 ss[k].arg, .slice ac ss[k].cond.length cc, .slice ae ss[k].expr.length ce] 61)).alloc (.cells #[.pointer none, .pointer none] 63)) fi HBp.out HDp.out BN1.out (by omega))
  have b0 := HLp.out.cell 0
  have b1 := HLp.out.cell 1
  have b2 := HLp.out.cell 2
  have b3 := HLp.out.cell 3
  have b4 := HLp.out.cell 4
  have b5 := HLp.out.cell 5
  have b6 := HLp.out.cell 6
  have b7 := HLp.out.cell 7
  have b8 := HLp.out.cell 8
  go_enter Tryz.func43, Tryz.ntmps43
  go_wp2_with fail
  refine HA1.out.mono ?_
  rintro e w1 ⟨en, S1, rfl, hG1, hF1, hp1⟩
  have HSD : Hid (SD w w1 D S S1 (.slice (some ⟨gs, 0, none⟩) ss.length cu) (MN 0).1 en g.nodes.length (.slice none 0 0) id (MN 0).2 w.heap.size (w.heap.size + 1) (.cells #[.int .i64 (k : Int), .int .i64 ((path ss (k + 1)).length : Int), .slice (some ⟨bk, 0, none⟩) ks.length ck, .int .i64 ss[k].kind, .int .i64 ss[k].parent, .string ss[k].name, .int .i64 ss[k].arg, .slice ac ss[k].cond.length cc, .slice ae ss[k].expr.length ce] 61) (.cells #[.pointer none, .pointer none] 63)) := hid (by
    rw [HM0.out]
    exact ⟨hG1, (Fr.of_below HW0.out).trans hF1, hp1, HLp.out.fr hF1, HRp.out.fr hF1, World.ownsRow_nil _ _ _ _, (fun b e => by cases e), (fun i hi => by cases hi)⟩)
  clear hG1 hF1 hp1 HA1 b0 b1 b2 b3 b4 b5 b6 b7 b8 HLp HRp HDp HBp HW0
  have b2 := HSD.out.bx.cell 2
  go_wp2_with fail
  go_loopw [10, 12, 13, 25] (fun vo _ _ i wr => ∃ (m : Nat), i = .int .i64 (m : Int) ∧ m ≤ ks.length ∧ (∃ a c, vo = .slice a m c) ∧ Hid (∃ S' po, SD w wr D S S' (.slice (some ⟨gs, 0, none⟩) ss.length cu) (MN m).1 en g.nodes.length vo po (MN m).2 w.heap.size (w.heap.size + 1) (.cells #[.int .i64 (k : Int), .int .i64 ((path ss (k + 1)).length : Int), .slice (some ⟨bk, 0, none⟩) ks.length ck, .int .i64 ss[k].kind, .int .i64 ss[k].parent, .string ss[k].name, .int .i64 ss[k].arg, .slice ac ss[k].cond.length cc, .slice ae ss[k].expr.length ce] 61) (.cells #[.pointer none, .pointer none] 63))) (fun _ _ _ i _ => ks.length - (intOf i).toNat)
  case atStart => exact ⟨0, rfl, Nat.zero_le _, ⟨_, _, rfl⟩, hid ⟨S1, id, HSD.out⟩⟩
  case round =>
    clear HSD b2
    obtain ⟨m, rfl, hm, ⟨ao, co, rfl⟩, HX⟩ := hrel
    obtain ⟨S2, po, hW2⟩ := HX.out
    have HW := hid hW2
    clear hW2 HX
    by_cases hmt : m < ks.length
    · have qx : (m : Int) < (ks.length : Int) := by omega
      have HMN := hid (HMS.out m hmt)
      have hBL := BL.out m hmt
      have hLe := (BM.out m hm).2
      obtain ⟨_, hO2⟩ := HGM.out m hm
      have HO3 := hid (HGM.out (m + 1) (by omega)).1
      have hkm := HKM.out m hmt
      obtain ⟨j, hj2⟩ : ∃ j, j = ks[m] := ⟨_, rfl⟩
      rw [← hj2] at hkm HMN
      have hj := hkm.1
      obtain ⟨a1, n1, c1, a2, n2, c2, a3, n3, c3, hpj, hHD⟩ := HHX.out j m hmt hj hj2
      have hbw := HW.out.fr.env HBw.out HDw.out hwp
      obtain ⟨d0, b2, kk, t0, t1, t2, t3, t4, t5, t6, t7, t8⟩ := hHD wr hbw HW.out.db.u (HW.out.bx.cell 2)
      have HHD := hid hHD
      have HC7 : Hid (∀ wx, Below wp.heap.size wp wx → wx.cell? ⟨gs, j * 9 + 7, none⟩ = some (.slice a2 n2 c2)) := hid (fun wx hbx => by
        exact old_cell hbx hgs ((hbw.cell (p := ⟨gs, j * 9 + 7, none⟩) hgs).symm.trans t7))
      have HOQ := hid (step_ord hpf f (MN m).1 j hj hkm.2 hO2)
      have HSTP := hid (hSg.out D S2 (MN m).1 j hj _ _ _ wr hwp hbw HW.out.db hO2 hpj hkm.2 hBL.1 hBL.2)
      obtain ⟨qd, hqd⟩ : ∃ q, q = stepG ss f (MN m).1 j := ⟨_, rfl⟩
      rw [← hqd] at HSTP HMN HOQ
      have hjj : (j : Int) < (ss.length : Int) := by omega
      have hzk := cell_lt kk
      have hzg := cell_lt t0
      have hzd := HW.out.db.lt
      have HRW := hid (row_of_at hpj.cond)
      have hcb := HCND.out j hj
      rw [PJ_eq hj] at HMN
      unfold pstep at HSTP
      unfold sval at HSTP
      have HOB := hid (show g.nodes.length ≤ 100000000000000 ∧ qd.2.1 ≤ 100000000000000 from ⟨by have := BN1.out; omega, by have := HOQ.out.i; have := (BM.out m hm).1; omega⟩)
      clear hO2 hBL hpj hHD hqd hbw hj2 HHD
      go_wp2_with fail
      refine HSTP.out.mono ?_
      rintro e w4 ⟨p2, q2, S4, rfl, hG4, hF4, hp4, hq4⟩
      have HW4 := hid (HW.out.turn hG4 hF4)
      have hal : Below w4.heap.size w4 (w4.alloc (.cells #[.pointer (some ⟨p2, 0, none⟩), .pointer (some ⟨q2, 0, none⟩)] 63)) := (Below.refl _ w4).alloc (Nat.le_refl _) _
      have HW5 := hid (HW4.out.below hal)
      have HN5 := hid (hG4.new (.cells #[.pointer (some ⟨p2, 0, none⟩), .pointer (some ⟨q2, 0, none⟩)] 63))
      have HP5 := hid (hp4.below hal)
      have HQ5 := hid (hq4.below hal)
      clear hG4 hF4 hp4 hq4 hal HW HSTP d0 kk t0 t1 t2 t3 t4 t5 t6 t7 t8 hzk hzg hzd b2
      go_wp2_with fail
      obtain ⟨nn, hnn⟩ : ∃ n, n = w4.heap.size := ⟨_, rfl⟩
      rw [← hnn] at HN5
      rw [← hnn]
      clear hnn HW4
      generalize w4.alloc (.cells #[.pointer (some ⟨p2, 0, none⟩), .pointer (some ⟨q2, 0, none⟩)] 63) = w5 at *
      have hb5 := HW5.out.fr.env HBw.out HDw.out hwp
      have hhe : HE w5.drew D nn gs j (.slice (some ⟨gs, 0, none⟩) ss.length cu) (.slice a2 n2 c2) p2 := ⟨HW5.out.db.u, HN5.out.cell 0, HC7.out w5 hb5⟩
      have hdr : Below w5.heap.size w5 w5.drew := (Below.refl _ _).drew
      have HAF := hid (addFlow D S4 (.slice (some ⟨gs, 0, none⟩) ss.length cu) qd.1 en p2 g.nodes.length qd.2.1 ss[j].cond (.slice a2 n2 c2) w5.drew (HW5.out.db.below hdr) (HW5.out.en.below hdr) (HP5.out.below hdr) (Row_kept HRW.out hb5.drew) hcb (by have := HO3.out.srt; rw [HMN.out] at this; exact this) HOB.out.1 HOB.out.2)
      replace HW5 := hid (HW5.out.below hdr)
      replace HN5 := hid (HN5.out.below hdr)
      replace HQ5 := hid (HQ5.out.below hdr)
      clear hb5 hdr HP5
      refine wp_region_held_drew (S := fun wx => HE wx D nn gs j (.slice (some ⟨gs, 0, none⟩) ss.length cu) (.slice a2 n2 c2) p2) (by kernel_rfl) hhe (fun hHeld => ?_)
      refine wpAnyH_take (i := 0) (oi := { dst := some 38, op := Go.Op.move (Go.Operand.tmp 0), type := 90, pos := "l06_graph.go:198", after := #[], guard := none }) (v := .pointer (some ⟨D, 0, none⟩)) rfl (by kernel_rfl) (by kernel_rfl) (by kernel_rfl) (fun _ _ _ h => h) (Or.inl ⟨by rfl, by intro w hSw; (try dsimp only at hSw); obtain ⟨s0, s1, s2⟩ := hSw; go_simp⟩) (by assumption) ?_
      simp only [Act.put, List.setIfInBounds_toArray, List.set_cons_zero, List.set_cons_succ]
      refine wpAnyH_take (i := 1) (oi := { dst := some 39, op := Go.Op.move (Go.Operand.tmp 9), type := 55, pos := "l06_graph.go:198", after := #[], guard := none }) (v := .pointer (some ⟨en, 0, none⟩)) rfl (by kernel_rfl) (by kernel_rfl) (by kernel_rfl) (fun _ _ _ h => h) (Or.inl ⟨by rfl, by intro w hSw; (try dsimp only at hSw); obtain ⟨s0, s1, s2⟩ := hSw; go_simp⟩) (by assumption) ?_
      simp only [Act.put, List.setIfInBounds_toArray, List.set_cons_zero, List.set_cons_succ]
      refine wpAnyH_take (i := 2) (oi := { dst := some 40, op := Go.Op.fieldAddr 63 (Go.Operand.tmp 13) 0, type := 0, pos := "l06_graph.go:198", after := #[], guard := none }) (v := .pointer (some ⟨nn, 0, none⟩)) rfl (by kernel_rfl) (by kernel_rfl) (by kernel_rfl) (fun _ _ _ h => h) (Or.inl ⟨by rfl, by intro w hSw; (try dsimp only at hSw); obtain ⟨s0, s1, s2⟩ := hSw; go_simp⟩) (by assumption) ?_
      simp only [Act.put, List.setIfInBounds_toArray, List.set_cons_zero, List.set_cons_succ]
      refine wpAnyH_take (i := 3) (oi := { dst := some 41, op := Go.Op.load 55 (Go.Operand.tmp 40), type := 55, pos := "l06_graph.go:198", after := #[{ on := 2, ground := Go.Ground.data }], guard := none }) (v := .pointer (some ⟨p2, 0, none⟩)) rfl (by kernel_rfl) (by kernel_rfl) (by kernel_rfl) (fun _ _ _ h => h) (Or.inl ⟨by rfl, by intro w hSw; (try dsimp only at hSw); obtain ⟨s0, s1, s2⟩ := hSw; go_simp⟩) (by assumption) ?_
      simp only [Act.put, List.setIfInBounds_toArray, List.set_cons_zero, List.set_cons_succ]
      refine wpAnyH_take (i := 4) (oi := { dst := some 42, op := Go.Op.move (Go.Operand.tmp 0), type := 90, pos := "l06_graph.go:198", after := #[], guard := none }) (v := .pointer (some ⟨D, 0, none⟩)) rfl (by kernel_rfl) (by kernel_rfl) (by kernel_rfl) (fun _ _ _ h => h) (Or.inl ⟨by rfl, by intro w hSw; (try dsimp only at hSw); obtain ⟨s0, s1, s2⟩ := hSw; go_simp⟩) (by assumption) ?_
      simp only [Act.put, List.setIfInBounds_toArray, List.set_cons_zero, List.set_cons_succ]
      refine wpAnyH_take (i := 5) (oi := { dst := some 43, op := Go.Op.nilCheck (Go.Operand.tmp 42), type := 0, pos := "l06_graph.go:198", after := #[{ on := 4, ground := Go.Ground.data }], guard := none }) (v := .pointer (some ⟨D, 0, none⟩)) rfl (by kernel_rfl) (by kernel_rfl) (by kernel_rfl) (fun _ _ _ h => h) (Or.inl ⟨by rfl, by intro w hSw; (try dsimp only at hSw); obtain ⟨s0, s1, s2⟩ := hSw; go_simp⟩) (by assumption) ?_
      simp only [Act.put, List.setIfInBounds_toArray, List.set_cons_zero, List.set_cons_succ]
      refine wpAnyH_take (i := 6) (oi := { dst := some 44, op := Go.Op.fieldAddr 54 (Go.Operand.tmp 43) 0, type := 0, pos := "l06_graph.go:198", after := #[{ on := 5, ground := Go.Ground.data }], guard := none }) (v := .pointer (some ⟨D, 0, none⟩)) rfl (by kernel_rfl) (by kernel_rfl) (by kernel_rfl) (fun _ _ _ h => h) (Or.inl ⟨by rfl, by intro w hSw; (try dsimp only at hSw); obtain ⟨s0, s1, s2⟩ := hSw; go_simp⟩) (by assumption) ?_
      simp only [Act.put, List.setIfInBounds_toArray, List.set_cons_zero, List.set_cons_succ]
      refine wpAnyH_take (i := 7) (oi := { dst := some 45, op := Go.Op.load 48 (Go.Operand.tmp 44), type := 48, pos := "l06_graph.go:198", after := #[{ on := 6, ground := Go.Ground.data }], guard := none }) (v := .slice (some ⟨gs, 0, none⟩) ss.length cu) rfl (by kernel_rfl) (by kernel_rfl) (by kernel_rfl) (fun _ _ _ h => h) (Or.inl ⟨by rfl, by intro w hSw; (try dsimp only at hSw); obtain ⟨s0, s1, s2⟩ := hSw; go_simp⟩) (by assumption) ?_
      simp only [Act.put, List.setIfInBounds_toArray, List.set_cons_zero, List.set_cons_succ]
      refine wpAnyH_take (i := 8) (oi := { dst := some 46, op := Go.Op.move (Go.Operand.tmp 12), type := 2, pos := "l06_graph.go:198", after := #[], guard := none }) (v := .int .i64 (j : Int)) rfl (by kernel_rfl) (by kernel_rfl) (by kernel_rfl) (fun _ _ _ h => h) (Or.inl ⟨by rfl, by intro w hSw; (try dsimp only at hSw); obtain ⟨s0, s1, s2⟩ := hSw; go_simp⟩) (by assumption) ?_
      simp only [Act.put, List.setIfInBounds_toArray, List.set_cons_zero, List.set_cons_succ]
      refine wpAnyH_take (i := 9) (oi := { dst := some 47, op := Go.Op.indexAddr 48 (Go.Operand.tmp 45) (Go.Operand.tmp 46), type := 0, pos := "l06_graph.go:198", after := #[{ on := 7, ground := Go.Ground.data }, { on := 8, ground := Go.Ground.data }], guard := none }) (v := .pointer (some ⟨gs, j * 9, none⟩)) rfl (by kernel_rfl) (by kernel_rfl) (by kernel_rfl) (fun _ _ _ h => h) (Or.inl ⟨by rfl, by intro w hSw; (try dsimp only at hSw); obtain ⟨s0, s1, s2⟩ := hSw; go_simp⟩) (by assumption) ?_
      simp only [Act.put, List.setIfInBounds_toArray, List.set_cons_zero, List.set_cons_succ]
      refine wpAnyH_take (i := 10) (oi := { dst := some 48, op := Go.Op.fieldAddr 61 (Go.Operand.tmp 47) 1, type := 0, pos := "l06_graph.go:198", after := #[{ on := 9, ground := Go.Ground.data }], guard := none }) (v := .pointer (some ⟨gs, j * 9 + 3, none⟩)) rfl (by kernel_rfl) (by kernel_rfl) (by kernel_rfl) (fun _ _ _ h => h) (Or.inl ⟨by rfl, by intro w hSw; (try dsimp only at hSw); obtain ⟨s0, s1, s2⟩ := hSw; go_simp⟩) (by assumption) ?_
      simp only [Act.put, List.setIfInBounds_toArray, List.set_cons_zero, List.set_cons_succ]
      refine wpAnyH_take (i := 11) (oi := { dst := some 49, op := Go.Op.fieldAddr 46 (Go.Operand.tmp 48) 4, type := 0, pos := "l06_graph.go:198", after := #[{ on := 10, ground := Go.Ground.data }], guard := none }) (v := .pointer (some ⟨gs, j * 9 + 7, none⟩)) rfl (by kernel_rfl) (by kernel_rfl) (by kernel_rfl) (fun _ _ _ h => h) (Or.inl ⟨by rfl, by intro w hSw; (try dsimp only at hSw); obtain ⟨s0, s1, s2⟩ := hSw; go_simp⟩) (by assumption) ?_
      simp only [Act.put, List.setIfInBounds_toArray, List.set_cons_zero, List.set_cons_succ]
      refine wpAnyH_take (i := 12) (oi := { dst := some 50, op := Go.Op.load 44 (Go.Operand.tmp 49), type := 44, pos := "l06_graph.go:198", after := #[{ on := 11, ground := Go.Ground.data }], guard := none }) (v := .slice a2 n2 c2) rfl (by kernel_rfl) (by kernel_rfl) (by kernel_rfl) (fun _ _ _ h => h) (Or.inl ⟨by rfl, by intro w hSw; (try dsimp only at hSw); obtain ⟨s0, s1, s2⟩ := hSw; go_simp⟩) (by assumption) ?_
      simp only [Act.put, List.setIfInBounds_toArray, List.set_cons_zero, List.set_cons_succ]
      refine wpAnyH_ready (rs := [13]) (by kernel_rfl) (by simp) ?_
      refine (AllReadyH.cons (o := { dst := some 51, op := Go.Op.call { callee := Go.Callee.value (Go.Operand.func 20), args := #[Go.Operand.tmp 38, Go.Operand.tmp 39, Go.Operand.tmp 41, Go.Operand.tmp 50], argTypes := #[90, 55, 55, 44] }, type := 0, pos := "l06_graph.go:198", after := #[{ on := 0, ground := Go.Ground.data }, { on := 1, ground := Go.Ground.data }, { on := 3, ground := Go.Ground.data }, { on := 12, ground := Go.Ground.data }], guard := none }) rfl (fun K hK => ?_) AllReadyH.nil)
      go_simp
      go_at_call 20
      refine HAF.out.mono ?_
      rintro e w6 ⟨⟨r6, rfl⟩, S6, hG6, hF6⟩
      have HW6 := hid (HW5.out.turn hG6 hF6)
      have HN6 := hid (HN5.out.fr hF6)
      have HQ6 := hid (HQ5.out.fr HW5.out.db hF6)
      have hb6 := HW6.out.fr.env HBw.out HDw.out hwp
      have hhe6 : HE w6 D nn gs j (.slice (some ⟨gs, 0, none⟩) ss.length cu) (.slice a2 n2 c2) p2 := ⟨HW6.out.db.u, HN6.out.cell 0, HC7.out w6 hb6⟩
      clear hG6 hF6 HAF hb6
      go_wp2_with fail
      refine hK.out _ _ hhe6 (fun hHeld => ?_)
      clear hK K
      try simp only [Act.put]
      refine wpAnyH_done (by kernel_rfl) ?_ _
      have x1 := HN6.out.cell 1
      have hrow6 := HW6.out.row
      rw [hLe] at hrow6
      have hfz := HW6.out.fr.size
      have hz6 : w.heap.size < w6.heap.size ∧ w.heap.size + 1 < w6.heap.size := ⟨HW6.out.bx.lt, HW6.out.rs.lt⟩
      clear hhe hhe6 HN5 HQ5 hHeld HW5
      go_wp2_with (at_builtin; go_must (refine Ap.wpList_any _ rfl _ _ 52 rfl w.heap.size 55 j0 _ 1 8 Tryz.underlying52 hj0 hy0 hy1 hy2 rfl (by omega) (.slice ao m co) m (ptrs po m) rfl (hrow6.alloc _) _ 1 [.pointer (some ⟨q2, 0, none⟩)] rfl (one_ptr (t := 55) (new_at _ _ rfl)) (by unfold maxLen; omega) (by omega) (by simp; omega) (w6.heap.size + 1) (by simp) ?_); intro a7 c7 w7 hown7 hg7 hat7)
      have hL := HW6.out.push (o := qd.2.2) HQ6.out hz6 (by rw [hLe]; exact hown7) hg7 hat7
      have e2 : (MN (m + 1)).2 = (MN m).2 ++ [qd.2.2] := by rw [HMN.out]
      have e1 : (MN (m + 1)).1 = addF qd.1 ⟨(g.nodes.length : Int), (qd.2.1 : Int), ss[j].cond⟩ := by rw [HMN.out]
      exact ⟨⟨m + 1, by simp, by omega, ⟨a7, c7, rfl⟩, hid ⟨S6, _, by rw [e2, e1]; exact hL⟩⟩, by simp [intOf]; omega⟩
    · have qx : ¬ (m : Int) < (ks.length : Int) := by omega
      have HME := hid (show m = ks.length by omega)
      have hLe := (BM.out m hm).2
      have hm0 : 0 < m := by omega
      have HBM := hid (BM.out m hm)
      have HMIm := hid (HGM.out m hm).1
      have hrow := HW.out.row
      rw [hLe] at hrow
      obtain ⟨bo, cp2, hbo, _⟩ := Nst.own_some hrow hm0
      obtain ⟨rfl, rfl⟩ : ao = some ⟨bo, 0, none⟩ ∧ co = cp2 := by simpa using hbo
      rw [← HME.out] at HEQ HJS
      have hbw := HW.out.fr.env HBw.out HDw.out hwp
      have HA2 := hid (HADD.out S2 (MN m).1 wr la hbw HW.out.db HBM.out.1 (by omega))
      have b0 := HW.out.bx.cell 0
      have b1 := HW.out.bx.cell 1
      have b2 := HW.out.bx.cell 2
      have b3 := HW.out.bx.cell 3
      have b4 := HW.out.bx.cell 4
      have b5 := HW.out.bx.cell 5
      have b6 := HW.out.bx.cell 6
      have b7 := HW.out.bx.cell 7
      have b8 := HW.out.bx.cell 8
      have hzb := HW.out.bx.lt
      have h24 : m ≤ 24 := by omega
      clear hrow hbo HKM HMS BM BL HGM HHX hSg HADD HCND hbw hpf hl
      go_wp2_with fail
      refine HA2.out.mono ?_
      rintro e w7 ⟨lp, S7, rfl, hG7, hF7, hp7⟩
      obtain ⟨outs, hou⟩ : ∃ o, o = (MN m).2 := ⟨_, rfl⟩
      have HL7 : Hid (SD w w7 D S S7 (.slice (some ⟨gs, 0, none⟩) ss.length cu) (joinN outs (MN m).1.nodes.length (addN (MN m).1 (bareN la k)) 0) en g.nodes.length (.slice (some ⟨bo, 0, none⟩) m co) po outs w.heap.size (w.heap.size + 1) (.cells #[.int .i64 (k : Int), .int .i64 ((path ss (k + 1)).length : Int), .slice (some ⟨bk, 0, none⟩) ks.length ck, .int .i64 ss[k].kind, .int .i64 ss[k].parent, .string ss[k].name, .int .i64 ss[k].arg, .slice ac ss[k].cond.length cc, .slice ae ss[k].expr.length ce] 61) (.cells #[.pointer none, .pointer none] 63) ∧ PtN w7 D lp (MN m).1.nodes.length) := hid ⟨by rw [hou]; exact HW.out.turn hG7 hF7, hp7⟩
      rw [← hou] at HEQ hLe HJS HMIm
      clear hG7 hF7 hp7 HA2 hou b0 b1 b2 b3 b4 b5 b6 b7 b8 hzb HW
      go_wp2_with fail
      clear hmt hm
      go_loopw [16, 64] (fun _ i wr => ∃ n : Nat, i = .int .i64 (n : Int) ∧ n ≤ m ∧ Hid (∃ S', SD w wr D S S' (.slice (some ⟨gs, 0, none⟩) ss.length cu) (joinN outs (MN m).1.nodes.length (addN (MN m).1 (bareN la k)) n) en g.nodes.length (.slice (some ⟨bo, 0, none⟩) m co) po outs w.heap.size (w.heap.size + 1) (.cells #[.int .i64 (k : Int), .int .i64 ((path ss (k + 1)).length : Int), .slice (some ⟨bk, 0, none⟩) ks.length ck, .int .i64 ss[k].kind, .int .i64 ss[k].parent, .string ss[k].name, .int .i64 ss[k].arg, .slice ac ss[k].cond.length cc, .slice ae ss[k].expr.length ce] 61) (.cells #[.pointer none, .pointer none] 63) ∧ PtN wr D lp (MN m).1.nodes.length)) (fun _ i _ => m - (intOf i).toNat)
      case atStart => exact ⟨0, rfl, Nat.zero_le _, hid ⟨S7, HL7.out⟩⟩
      case round =>
        clear HL7
        obtain ⟨n, rfl, hn, HX⟩ := hrel
        obtain ⟨S8, hW8, hl8⟩ := HX.out
        have HW := hid hW8
        have HPL := hid hl8
        clear hW8 hl8 HX
        by_cases hnt : n < m
        · have q2 : (n : Int) < (m : Int) := by omega
          have hno : n < outs.length := by omega
          have hrow := HW.out.row
          rw [hLe] at hrow
          have c8 : wr.cell? ⟨bo, n, none⟩ = some (.pointer (some ⟨po n, 0, none⟩)) := (hrow.cellAt n (by omega)).trans (by simp [ptrs, hnt])
          have zo := cell_lt c8
          have HJ : Hid (joinN outs (MN m).1.nodes.length (addN (MN m).1 (bareN la k)) (n + 1) = addF (joinN outs (MN m).1.nodes.length (addN (MN m).1 (bareN la k)) n) ⟨(outs[n] : Int), ((MN m).1.nodes.length : Int), []⟩) := hid (by simp only [joinN]; rw [gd hno])
          have HAF := hid (addFlow D S8 (.slice (some ⟨gs, 0, none⟩) ss.length cu) (joinN outs (MN m).1.nodes.length (addN (MN m).1 (bareN la k)) n) (po n) lp outs[n] (MN m).1.nodes.length [] (.slice none 0 0) wr HW.out.db (HW.out.pt n hno) HPL.out (row_nil _ _ _ _) (Nat.zero_le _) (by have := HJS.out (n + 1) (by omega); rw [HJ.out] at this; exact this) (by have := HMIm.out.ob _ (List.getElem_mem hno); have := HBM.out.1; omega) (by have := HBM.out.1; omega))
          clear hrow
          go_wp2_with fail
          refine HAF.out.mono ?_
          rintro e w9 ⟨⟨r9, rfl⟩, S9, hG9, hF9⟩
          have hL9 := HW.out.turn hG9 hF9
          have hP9 := HPL.out.fr HW.out.db hF9
          go_wp2
          exact ⟨⟨n + 1, by simp, by omega, hid ⟨S9, by rw [HJ.out]; exact hL9, hP9⟩⟩, by simp [intOf]; omega⟩
        · have q2 : ¬ (n : Int) < (m : Int) := by omega
          have HNE := hid (show n = m by omega)
          have r0 := HW.out.rs.cell 0
          have r1 := HW.out.rs.cell 1
          have f0 := HW.out.rs.free 0
          have f1 := HW.out.rs.free 1
          go_wp2
          have hM := HW.out.rs.set (i := 0) (.pointer (some ⟨en, 0, none⟩))
          have hM2 := hM.set (i := 1) (.pointer (some ⟨lp, 0, none⟩))
          have g0 := hM2.cell 0
          have g1 := hM2.cell 1
          refine bodyPost_ret (v := .agg #[.pointer (some ⟨en, 0, none⟩), .pointer (some ⟨lp, 0, none⟩)]) (by simp [results, Tryz.results43, go_sem, g0, g1]) rfl ?_
          rw [HEQ.out]
          refine ⟨en, lp, S8, rfl, ?_, (HW.out.fr.set (by omega) _).set (by omega) _, (HW.out.en.set HW.out.rs (by decide) _).set hM (by decide) _, (HPL.out.set HW.out.rs (by decide) _).set hM (by decide) _⟩
          have e9 := (HW.out.db.set HW.out.rs (i := 0) (by decide) (by decide) (.pointer (some ⟨en, 0, none⟩))).set hM (i := 1) (by decide) (by decide) (.pointer (some ⟨lp, 0, none⟩))
          rw [HNE.out] at e9
          rw [hLe]
          exact e9
end Gr
end Go.Proofs.YtfgckeoigkoflaaGreatDoor
