/- Laid together: GoH, GoI. -/
import Derived.Test.YtfgckeoigkoflaaGreatDoorJGraphOf15
/- What is parted and comes together again, as the specification draws it, over what is drawn of its kids. -/
namespace Go.Proofs.YtfgckeoigkoflaaGreatDoor
open Go.RowKit
set_option linter.unusedVariables false
namespace Gr
open Ex (hid nvals inR owns_keep)
open Nd (NodeD)
open Gn (GNodeD)
open Fl (FlowD)
open St (StepD)
open Nst (own flat)
open Pf (PJ PJ_eq kidsL pFault specKids)
open Pt (kidVals)
open Rc
theorem infoI : (Tryz.prog.info? 2).map (fun i => (i.zero, i.size, i.bytes)) = some (some (.int .i64 0), 1, 8) := by kernel_rfl
/-- Amid the kids: the graph so far, the kids' places, what leaves each. -/
structure LM (wp w2 wr : World) (P bk : Nat) (S1 S' : Nat → Prop) (ks : List Nat) (gm : GraphD) (vo : Value) (outs : List Nat) : Prop where
  gb : GB wr P S' gm
  fr : Fr w2 wr P S1 S'
  nb : ¬ S' bk
  vb : ∀ b, own vo b → ¬ S' b ∧ b ≠ P ∧ b ≠ bk
  kid : ∀ (i : Nat) (h : i < ks.length), wr.cell? ⟨bk, i, none⟩ = some (.int .i64 (ks[i] : Int))
  row : wr.ownsRow w2.heap.size 2 1 vo outs.length (kidVals outs)
  st : Below wp.heap.size wp wr
theorem row_one (w : World) (x : Value) (e : TypeId) (h1 : x.oneCell' = true) : Ap.Row (w.alloc (.cells #[x] e)) 1 (.slice (some ⟨w.heap.size, 0, none⟩) 1 1) 1 [x] := ⟨_, _, rfl, rfl, (fun u hu => by simp at hu; rw [hu]; exact h1), .inr ⟨_, rfl, World.news_of_block (cs := #[x]) (t := e) (fr := (0, 0)) (heap_alloc_new w _)⟩⟩
theorem kv_snoc (l : List Nat) (a : Nat) : kidVals (l ++ [a]) = kidVals l ++ [.int .i64 (a : Int)] := by simp [kidVals]
/-- What leaves one more kid is put behind the others. -/
theorem LM.push {wp w2 w5 w6 : World} {P bk a : Nat} {S1 S' : Nat → Prop} {ks outs : List Nat} {gm : GraphD} {vo v' x : Value} (h : LM wp w2 w5 P bk S1 S' ks gm vo outs) (hwp : wp.heap.size ≤ w2.heap.size) (hbk : bk < w5.heap.size)
    (hown : w6.ownsRow w2.heap.size 2 1 v' (outs.length + 1) (kidVals outs ++ [.int .i64 (a : Int)])) (hg : (w5.alloc (.cells #[x] 2)).grownBy w6 vo.ownBlock) (hat : v'.ownBlock = vo.ownBlock ∨ v'.ownBlock = some (w5.heap.size + 1)) : LM wp w2 w6 P bk S1 S' ks gm v' (outs ++ [a]) := by
  have hG := h.gb
  have hF := h.fr
  have hb := h.nb
  have hv := h.vb
  have hz : w5.heap.size + 1 ≤ w6.heap.size := by have := hg.size; simpa using this
  have hkeep : ∀ b, b < w5.heap.size → ¬ own vo b → w6.heap[b]? = w5.heap[b]? := fun b h1 h2 => (hg.block b (by simp; omega) (fun e => h2 e.symm)).trans (Below.heap_alloc w5 _ b h1)
  have hB : Below w2.heap.size w5 w6 := ((Below.refl _ w5).alloc hF.size _).grown hg (by have := hF.size; simp; omega) (fun b e => (Nst.own_lt h.row e).1)
  have hbv : ¬ own vo bk := fun e => (hv bk e).2.2 rfl
  refine ⟨hG.keep (by omega) (fun b e => ?_), ?_, hb, fun b e => ?_, fun i hi => ?_, ?_, ?_⟩
  · rcases e with rfl | e
    · exact hkeep b hG.lt (fun e => (hv b e).2.1 rfl)
    · exact hkeep b (hG.owns b e).2 (fun e2 => (hv b e2).1 e)
  · exact ⟨hB.os.trans hF.os, hB.tape.trans hF.tape, hB.output.trans hF.output, Nat.le_trans hF.size hB.size, fun b h1 h2 h3 => (hB.block b h1).trans (hF.blk b h1 h2 h3), hF.new⟩
  · rcases hat with e2 | e2
    · exact hv b (by unfold own; rw [← e2]; exact e)
    · have : w5.heap.size + 1 = b := Option.some.inj (e2.symm.trans e)
      refine ⟨fun e3 => by have := (hG.owns b e3).2; omega, ?_, by omega⟩
      have := hG.lt
      omega
  · have := h.kid i hi
    simp only [World.cell?] at this ⊢
    rw [hkeep bk hbk hbv]
    exact this
  · rw [List.length_append, List.length_singleton, kv_snoc]
    exact hown
  · exact h.st.trans (hB.mono hwp)
/-- The graph is turned amid the kids. -/
theorem LM.turn {wp w2 w4 w5 : World} {P bk : Nat} {S1 S' : Nat → Prop} {ks outs : List Nat} {gm gn : GraphD} {vo : Value} (h : LM wp w2 w4 P bk S1 S' ks gm vo outs) (hbk : bk < w4.heap.size) (hbP : bk ≠ P) (hwp : wp.heap.size ≤ P)
    {S'' : Nat → Prop} (hG2 : GB w5 P S'' gn) (hF2 : Fr w4 w5 P S' S'') : LM wp w2 w5 P bk S1 S'' ks gn vo outs := by
  have hG := h.gb
  have hF := h.fr
  have hb := h.nb
  have hv := h.vb
  have hvl : ∀ b, own vo b → b < w4.heap.size := fun b e => (Nst.own_lt h.row e).2
  refine ⟨hG2, hF.trans hF2, hF2.ne hbk hb, fun b e => ⟨hF2.ne (hvl b e) (hv b e).1, (hv b e).2⟩, fun i hi => hF2.cell hbP hb (h.kid i hi), Nst.own_kept h.row (fun b e => hF2.blk b (hvl b e) (hv b e).2.1 (hv b e).1), hF2.steps hG h.st hwp⟩
theorem gd {l : List Nat} {m : Nat} (h : m < l.length) : l.getD m 0 = l[m] := by simp [h]
set_option maxRecDepth 100000 in
set_option maxHeartbeats 16000000 in
theorem specMany (P B0 f : Nat) (S : Nat → Prop) (g : GraphD) (ss : List StepD) (k : Nat) (fi la : Int) (v : Value) (wp w : World) (HSG : SG ss v wp f) (h : GB w P S g) (hs : St.At wp B0 v ss) (hwp : wp.heap.size ≤ P) (hb : Below wp.heap.size wp w) (hpf : pFault ss = 0) (hk : k < ss.length) (hl : ss.length ≤ 24) (hd : 8 ≤ f + 1 + deepG ss k)
    (hcl : ∀ j (hj : j < ss.length), ss[j].cond.length ≤ 100000) (hn : g.nodes.length + NB (f + 1) ≤ 1000000000000) (hfb : g.flows.length + FB (f + 1) ≤ 1000000000000) (hL : 0 < (kidsL ss k).length) :
    Calls Tryz.prog 67 #[.pointer (some ⟨P, 0, none⟩), v, .int .i64 (k : Int), .int .i64 fi, .int .i64 la] w fun e w' => e = .returned (.tuple #[.int .i64 ((manyG (stepG ss f) ss g k fi la).2.1 : Int), .int .i64 ((manyG (stepG ss f) ss g k fi la).2.2 : Int)]) ∧ ∃ S', GB w' P S' (manyG (stepG ss f) ss g k fi la).1 ∧ Fr w w' P S S' := by
  obtain ⟨j0, hj, hy0, hy1, hy2⟩ := inf_parts2 infoI
  have hkl := kids_le hl k
  have HKM : Hid (∀ (m : Nat) (hm : m < (kidsL ss k).length), (kidsL ss k)[m] < ss.length ∧ 8 ≤ f + deepG ss (kidsL ss k)[m]) := hid (fun m hm => by
    have h1 := kid_mem (List.getElem_mem hm)
    have h2 := kid_deep hpf hk (List.getElem_mem hm)
    exact ⟨h1.1, by omega⟩)
  have HK := hid (fun w' (hb' : Below wp.heap.size wp w') => specKids B0 ss v k w' (by omega) (hs.below hb'))
  have hNB : NB (f + 1) = 3 + 24 * NB f := rfl
  have hFB : FB (f + 1) = 48 + 24 * FB f := rfl
  have HMF := hid (fun m => many_few (ss := ss) (a := g.nodes.length) (ks := kidsL ss k) (g := addN g (bareN fi k)) (step_few hl f) m)
  obtain ⟨MN, hMN⟩ : ∃ M, M = manyN (stepG ss f) ss g.nodes.length (kidsL ss k) (addN g (bareN fi k)) := ⟨_, rfl⟩
  rw [← hMN] at HMF
  have HM0 : Hid (MN 0 = (addN g (bareN fi k), [])) := hid (by rw [hMN]; rfl)
  have HMS : Hid (∀ m (hm : m < (kidsL ss k).length), MN (m + 1) = (addF (stepG ss f (MN m).1 (kidsL ss k)[m]).1 ⟨(g.nodes.length : Int), ((stepG ss f (MN m).1 (kidsL ss k)[m]).2.1 : Int), (PJ ss (kidsL ss k)[m]).cond⟩, (MN m).2 ++ [(stepG ss f (MN m).1 (kidsL ss k)[m]).2.2])) := hid (fun m hm => by rw [hMN]; simp only [manyN]; rw [gd hm])
  have HEQ : Hid (manyG (stepG ss f) ss g k fi la = (joinN (MN (kidsL ss k).length).2 (MN (kidsL ss k).length).1.nodes.length (addN (MN (kidsL ss k).length).1 (bareN la k)) (MN (kidsL ss k).length).2.length, g.nodes.length, (MN (kidsL ss k).length).1.nodes.length)) := hid (by rw [hMN]; rfl)
  have hle := addN_n g (bareN fi k)
  have hlf := addN_f g (bareN fi k)
  have BM : Hid (∀ m, m ≤ (kidsL ss k).length → (MN m).1.nodes.length ≤ 1000000000000 ∧ (MN m).1.flows.length + 24 ≤ 1000000000000 ∧ (MN m).2.length = m) := hid (fun m hm => by
    obtain ⟨h1, h2, h3, h4⟩ := HMF.out m
    have e1 : m * NB f ≤ 24 * NB f := Nat.mul_le_mul_right _ (by omega)
    have e2 : m * (FB f + 1) ≤ 24 * (FB f + 1) := Nat.mul_le_mul_right _ (by omega)
    rw [hlf] at h2
    omega)
  have BL : Hid (∀ m, m < (kidsL ss k).length → (MN m).1.nodes.length + NB f ≤ 1000000000000 ∧ (MN m).1.flows.length + FB f ≤ 1000000000000) := hid (fun m hm => by
    obtain ⟨h1, h2, h3, h4⟩ := HMF.out m
    have e1 : m * NB f ≤ 23 * NB f := Nat.mul_le_mul_right _ (by omega)
    have e2 : m * (FB f + 1) ≤ 23 * (FB f + 1) := Nat.mul_le_mul_right _ (by omega)
    rw [hlf] at h2
    omega)
  have BQ : Hid (∀ m, m < (kidsL ss k).length → (stepG ss f (MN m).1 (kidsL ss k)[m]!).1.flows.length ≤ 1000000000000) := hid (fun m hm => by
    have := (step_few hl f (MN m).1 (kidsL ss k)[m]!).f
    have := (BL.out m hm).2
    omega)
  have BN1 : Hid (g.nodes.length ≤ 1000000000000) := hid (by omega)
  have HSg := hid HSG
  have HG := hid h
  have HSB := hid hb
  have HST := hid (fun w' (hb' : Below wp.heap.size wp w') => hs.below hb')
  have HCL := hid hcl
  have HPJ : Hid (∀ j (hj : j < ss.length), PJ ss j = ss[j]) := hid (fun j hj => PJ_eq hj)
  obtain ⟨aq, cq, rfl⟩ := hs.slice
  clear h hs hb HSG hcl hMN hNB hFB hn hfb hd hle hlf HMF
  generalize kidsL ss k = ks at *
  go_enter Tryz.func67, Tryz.ntmps67
  go_wp2_with fail
  refine (specNode P S g (bareN fi k) (.slice none 0 0) w w HG.out (Below.refl _ _) (nil_own _ _) BN1.out).mono ?_
  rintro e w1 ⟨rfl, S1, hG1, hF1⟩
  have HSB1 := hid (hF1.steps HG.out HSB.out hwp)
  have HG1 : Hid (GB w1 P S1 (MN 0).1) := hid (by rw [HM0.out]; exact hG1)
  have HF1 := hid hF1
  clear hG1 hF1 HG HSB
  go_wp2_with fail
  refine (HK.out _ HSB1.out).mono ?_
  rintro e w2 ⟨⟨u, rfl, ho⟩, hb2⟩
  obtain ⟨bk, cap, rfl, hbk1, hbk2, hcp, _⟩ := Nst.own_some ho hL
  have HKC : Hid (∀ (i : Nat) (h : i < ks.length), w2.cell? ⟨bk, i, none⟩ = some (.int .i64 (ks[i] : Int))) := hid (fun i hi => (ho.cellAt i (by omega)).trans (by simp [kidVals, hi]))
  have HG2 := hid (HG1.out.below hb2)
  have HF2 := hid (HF1.out.trans (Fr.of_below hb2))
  have HSB2 := hid (HSB1.out.trans (hb2.mono HSB1.out.size))
  have hbP : bk ≠ P := by have := HG1.out.lt; omega
  have hbN : ¬ S1 bk := fun e => by have := HG1.out.owns bk e; omega
  have hP2 := HG2.out.lt
  have hx3 : Below w2.heap.size w2 (w2.alloc (.cells #[] 2)) := (Below.refl _ w2).alloc (Nat.le_refl _) _
  have HLM : Hid (LM wp w2 (w2.alloc (.cells #[] 2)) P bk S1 S1 ks (MN 0).1 (.slice (some ⟨w2.heap.size, 0, none⟩) 0 0) (MN 0).2) := hid (by
    refine ⟨HG2.out.below hx3, Fr.of_below hx3, hbN, fun b e => ?_, fun i hi => old_cell hx3 hbk2 (HKC.out i hi), ?_, HSB2.out.trans (hx3.mono HSB2.out.size)⟩
    · have : w2.heap.size = b := Option.some.inj e
      refine ⟨fun e2 => by have := (HG2.out.owns b e2).2; omega, by omega, by omega⟩
    · rw [HM0.out]
      exact World.ownsRow_made w2 #[] 0 (Nat.le_refl _) (by unfold maxLen; omega) rfl)
  have L3 : Hid (w2.heap.size ≤ (w2.alloc (.cells #[] 2)).heap.size) := hid (by simp)
  clear ho hb2 HG1 HF1 HSB1 HK HKC hx3 HM0
  go_wp2_with fail
  generalize w2.alloc (.cells #[] 2) = w3 at *
  go_loopw [14, 15, 16, 17] (fun vo i _ _ wr => ∃ m : Nat, i = .int .i64 m ∧ m ≤ ks.length ∧ (∃ a c, vo = .slice a m c) ∧ Hid (∃ S', LM wp w2 wr P bk S1 S' ks (MN m).1 vo (MN m).2) ∧ Hid (w2.heap.size ≤ wr.heap.size)) (fun _ i _ _ _ => ks.length - (intOf i).toNat)
  case atStart => exact ⟨0, rfl, Nat.zero_le _, ⟨_, _, rfl⟩, hid ⟨S1, HLM.out⟩, L3⟩
  case round =>
    obtain ⟨m, rfl, hm, ⟨ao, co, rfl⟩, HX, HZ⟩ := hrel
    obtain ⟨S', hLM⟩ := HX.out
    have HL := hid hLM
    clear hLM HX
    by_cases hmt : m < ks.length
    · have q1 : (m : Int) < (ks.length : Int) := by omega
      have c0 := HL.out.kid m hmt
      have zb := cell_lt c0
      have hkm := HKM.out m hmt
      have HMN := hid (HMS.out m hmt)
      have hLe := (BM.out m hm).2.2
      have HBQ := hid (BQ.out m hmt)
      have hq0 : ks[m]! = ks[m] := by simp [hmt]
      rw [hq0] at HBQ
      have HKS : Hid (∀ wr' S'' gm vo outs, LM wp w2 wr' P bk S1 S'' ks gm vo outs → wr'.cell? ⟨bk, m, none⟩ = some (.int .i64 (ks[m] : Int))) := hid (fun _ _ _ _ _ h => h.kid m hmt)
      have HBL := hid (BL.out m hmt)
      generalize ks[m] = j at *
      clear hq0
      have HMM : Hid (MN m = MN m) := hid rfl
      obtain ⟨q, hq⟩ : ∃ q, q = stepG ss f (MN m).1 j := ⟨_, rfl⟩
      have HSTP := hid (HSg.out P S' (MN m).1 j wr hwp HL.out.st HL.out.gb hkm.1 hkm.2 HBL.out.1 HBL.out.2)
      rw [← hq] at HSTP HMN HBQ
      clear hq
      go_wp2_with fail
      refine HSTP.out.mono ?_
      rintro e w4 ⟨rfl, S4, hG4, hF4⟩
      have HL4 := hid (HL.out.turn zb hbP hwp hG4 hF4)
      have c4 := HKS.out _ _ _ _ _ HL4.out
      have zb4 := cell_lt c4
      obtain ⟨g1, o1, vc1, ve1, rfl, hg1, p0, p1, p2, p3, p4, p5, hc1, he1⟩ := (HST.out w4 HL4.out.st).at hkm.1
      have q2 : (j : Int) < (ss.length : Int) := by have := hkm.1; omega
      have HCN := hid hc1
      have hcb := HCL.out j hkm.1
      have HZ4 := hid (Nat.le_trans HZ.out hF4.size)
      have HG4 := hid hG4
      have hpj := HPJ.out j hkm.1
      obtain ⟨ac, cc, rfl⟩ := hc1.slice
      rw [hpj] at HMN
      clear hG4 hF4 HL HSTP c0 zb p0 p1 p2 p3 p5 he1 hc1 hpj
      go_wp2_with fail
      refine (specLink P B0 S4 q.1 ⟨(g.nodes.length : Int), (q.2.1 : Int), ss[j].cond⟩ _ w4 HG4.out HCN.out hcb HBQ.out).mono ?_
      rintro e w5 ⟨⟨r5, rfl⟩, S5, hG5, hF5⟩
      have HL5 : Hid (LM wp w2 w5 P bk S1 S5 ks (MN (m + 1)).1 (.slice ao m co) (MN m).2) := hid (HL4.out.turn zb4 hbP hwp (by rw [HMN.out]; exact hG5) hF5)
      have HZ5 := hid (Nat.le_trans HZ4.out hF5.size)
      have hz5 : w2.heap.size ≤ w5.heap.size := HZ5.out
      have hrow5 := HL5.out.row
      rw [hLe] at hrow5
      have zb5 := cell_lt (HKS.out _ _ _ _ _ HL5.out)
      clear hG5 hF5 HL4 c4 zb4 p4 HG4 HCN
      have h24 : m ≤ 24 := by omega
      go_wp2_with (at_builtin; go_must (refine Ap.wpList_any _ rfl _ _ 57 rfl w2.heap.size 2 j0 _ 1 8 Tryz.underlying57 hj hy0 hy1 hy2 rfl (by omega) (.slice ao m co) m (kidVals (MN m).2) rfl (hrow5.alloc _) _ 1 [.int .i64 (q.2.2 : Int)] rfl (row_one w5 _ _ rfl) (by unfold maxLen; omega) (by omega) (by simp; omega) (w5.heap.size + 1) (by simp) ?_); intro a6 c6 w6 hown6 hgrow6 hat6)
      have hL6 := HL5.out.push (a := q.2.2) (Nat.le_trans hwp (by omega)) zb5 (by rw [hLe]; exact hown6) hgrow6 hat6
      refine ⟨⟨m + 1, by simp, by omega, ⟨a6, c6, rfl⟩, hid ⟨S5, ?_⟩, hid (by have := hgrow6.size; simp at this; omega)⟩, by simp [intOf]; omega⟩
      have e2 : (MN (m + 1)).2 = (MN m).2 ++ [q.2.2] := by rw [HMN.out]
      rw [e2]
      exact hL6
    · have q1 : ¬ (m : Int) < (ks.length : Int) := by omega
      have HME := hid (show m = ks.length by omega)
      have hLe := (BM.out m hm).2.2
      have hm0 : 0 < m := by omega
      have HBM := hid (BM.out m hm)
      have hrow := HL.out.row
      rw [hLe] at hrow
      obtain ⟨bo, cp2, hbo, _⟩ := Nst.own_some hrow hm0
      obtain ⟨rfl, rfl⟩ : ao = some ⟨bo, 0, none⟩ ∧ co = cp2 := by simpa using hbo
      have zb := cell_lt (HL.out.kid 0 (by omega))
      rw [← HME.out] at HEQ
      have h24 : m ≤ 24 := by omega
      clear hrow hbo HKM HMS BM BL BQ HST HCL HPJ HSg hpf hk hl
      go_wp2_with fail
      refine (specNode P S' (MN m).1 (bareN la k) (.slice none 0 0) wr wr HL.out.gb (Below.refl _ _) (nil_own _ _) HBM.out.1).mono ?_
      rintro e w7 ⟨rfl, S7, hG7, hF7⟩
      have HL7 : Hid (LM wp w2 w7 P bk S1 S7 ks (joinN (MN m).2 (MN m).1.nodes.length (addN (MN m).1 (bareN la k)) 0) (.slice (some ⟨bo, 0, none⟩) m co) (MN m).2) := hid (HL.out.turn zb hbP hwp hG7 hF7)
      obtain ⟨outs, hou⟩ : ∃ o, o = (MN m).2 := ⟨_, rfl⟩
      rw [← hou] at HL7 HEQ hLe
      have HFL : Hid (∀ i, i ≤ m → (joinN outs (MN m).1.nodes.length (addN (MN m).1 (bareN la k)) i).flows.length ≤ 1000000000000) := hid (fun i hi => by
        rw [(join_few i).2, addN_f]
        have := HBM.out.2.1
        omega)
      clear hG7 hF7 HL hou zb
      go_wp2_with fail
      clear hmt hm
      go_loopw [19] (fun i wr => ∃ n : Nat, i = .int .i64 n ∧ n ≤ m ∧ Hid (∃ S', LM wp w2 wr P bk S1 S' ks (joinN outs (MN m).1.nodes.length (addN (MN m).1 (bareN la k)) n) (.slice (some ⟨bo, 0, none⟩) m co) outs)) (fun i _ => m - (intOf i).toNat)
      case atStart => exact ⟨0, rfl, Nat.zero_le _, hid ⟨S7, HL7.out⟩⟩
      case round =>
        obtain ⟨n, rfl, hn, HX⟩ := hrel
        obtain ⟨S8, hLM⟩ := HX.out
        have HL := hid hLM
        clear hLM HX
        by_cases hnt : n < m
        · have q2 : (n : Int) < (m : Int) := by omega
          have hno : n < outs.length := by omega
          have hrow := HL.out.row
          rw [hLe] at hrow
          have c8 : wr.cell? ⟨bo, n, none⟩ = some (.int .i64 (outs[n] : Int)) := (hrow.cellAt n (by omega)).trans (by simp [kidVals, hno])
          have zb := cell_lt (HL.out.kid 0 (by have := HME.out; omega))
          have zo := cell_lt c8
          have HFN := hid (HFL.out n hn)
          have HJ : Hid (joinN outs (MN m).1.nodes.length (addN (MN m).1 (bareN la k)) (n + 1) = addF (joinN outs (MN m).1.nodes.length (addN (MN m).1 (bareN la k)) n) ⟨(outs[n] : Int), ((MN m).1.nodes.length : Int), []⟩) := hid (by simp only [joinN]; rw [gd hno])
          clear hrow
          generalize outs[n] = on at *
          go_wp2_with fail
          refine (specLink P 0 S8 _ ⟨(on : Int), ((MN m).1.nodes.length : Int), []⟩ (.slice none 0 0) wr HL.out.gb (nil_at _) (Nat.zero_le _) HFN.out).mono ?_
          rintro e w9 ⟨⟨r9, rfl⟩, S9, hG9, hF9⟩
          have hL9 := HL.out.turn zb hbP hwp hG9 hF9
          go_wp2
          exact ⟨⟨n + 1, by simp, by omega, hid ⟨S9, by rw [HJ.out]; exact hL9⟩⟩, by simp [intOf]; omega⟩
        · have q2 : ¬ (n : Int) < (m : Int) := by omega
          have HNE := hid (show n = m by omega)
          go_wp2
          go_ret2
          rw [HEQ.out]
          refine ⟨rfl, S8, ?_, HF2.out.trans HL.out.fr⟩
          have e9 := HL.out.gb
          rw [HNE.out] at e9
          rw [hLe]
          exact e9
end Gr
end Go.Proofs.YtfgckeoigkoflaaGreatDoor
/- A sequence, as the specification draws it, over what is drawn of its kids; every step. -/
namespace Go.Proofs.YtfgckeoigkoflaaGreatDoor
open Go.RowKit
set_option linter.unusedVariables false
namespace Gr
open Ex (hid nvals inR owns_keep)
open Nd (NodeD)
open Gn (GNodeD)
open Fl (FlowD)
open St (StepD)
open Nst (own flat)
open Pf (PJ PJ_eq kidsL pFault specKids)
open Pt (kidVals)
open Rc
set_option maxRecDepth 100000 in
set_option maxHeartbeats 16000000 in
theorem specSeq (P B0 f : Nat) (S : Nat → Prop) (g : GraphD) (ss : List StepD) (k : Nat) (v : Value) (wp w : World) (HSG : SG ss v wp f) (h : GB w P S g) (hs : St.At wp B0 v ss) (hwp : wp.heap.size ≤ P) (hb : Below wp.heap.size wp w) (hpf : pFault ss = 0) (hk : k < ss.length) (hl : ss.length ≤ 24) (hd : 8 ≤ f + 1 + deepG ss k)
    (hn : g.nodes.length + NB (f + 1) ≤ 1000000000000) (hfb : g.flows.length + FB (f + 1) ≤ 1000000000000) (hL : 0 < (kidsL ss k).length) (hkd : ss[k].kind = 1) :
    Calls Tryz.prog 33 #[.pointer (some ⟨P, 0, none⟩), v, .int .i64 (k : Int)] w fun e w' => e = .returned (.tuple #[.int .i64 ((seqG (stepG ss f) ss g k).2.1 : Int), .int .i64 ((seqG (stepG ss f) ss g k).2.2 : Int)]) ∧ ∃ S', GB w' P S' (seqG (stepG ss f) ss g k).1 ∧ Fr w w' P S S' := by
  have hkl := kids_le hl k
  have HKM : Hid (∀ (m : Nat) (hm : m < (kidsL ss k).length), (kidsL ss k)[m] < ss.length ∧ 8 ≤ f + deepG ss (kidsL ss k)[m]) := hid (fun m hm => by
    have h1 := kid_mem (List.getElem_mem hm)
    have h2 := kid_deep hpf hk (List.getElem_mem hm)
    exact ⟨h1.1, by omega⟩)
  have HK := hid (specKids B0 ss v k w (by omega) (hs.below hb))
  have hNB : NB (f + 1) = 3 + 24 * NB f := rfl
  have hFB : FB (f + 1) = 48 + 24 * FB f := rfl
  obtain ⟨q0, hq0⟩ : ∃ q, q = stepG ss f g (kidsL ss k)[0] := ⟨_, rfl⟩
  obtain ⟨SQ, hSQ⟩ : ∃ M, M = seqN (stepG ss f) (kidsL ss k) q0.1 q0.2.2 := ⟨_, rfl⟩
  have HS0 : Hid (SQ 0 = (q0.1, q0.2.2)) := hid (by rw [hSQ]; rfl)
  have HSS : Hid (∀ m (hm : m + 1 < (kidsL ss k).length), SQ (m + 1) = (addF (stepG ss f (SQ m).1 (kidsL ss k)[m + 1]).1 ⟨((SQ m).2 : Int), ((stepG ss f (SQ m).1 (kidsL ss k)[m + 1]).2.1 : Int), []⟩, (stepG ss f (SQ m).1 (kidsL ss k)[m + 1]).2.2)) := hid (fun m hm => by rw [hSQ]; simp only [seqN]; rw [gd hm])
  have HEQ : Hid (seqG (stepG ss f) ss g k = ((SQ ((kidsL ss k).length - 1)).1, q0.2.1, (SQ ((kidsL ss k).length - 1)).2)) := hid (by rw [hSQ, hq0]; unfold seqG; rw [gd hL])
  have hfew := step_few hl f
  have h0 := hfew g (kidsL ss k)[0]
  rw [← hq0] at h0
  have hsf := fun m => seq_few (ks := kidsL ss k) (g := q0.1) (o := q0.2.2) hfew m
  rw [← hSQ] at hsf
  have BL : Hid (∀ m, m + 1 < (kidsL ss k).length → (SQ m).1.nodes.length + NB f ≤ 1000000000000 ∧ (SQ m).1.flows.length + FB f ≤ 1000000000000) := hid (fun m hm => by
    obtain ⟨h1, h2, h4⟩ := hsf m
    have e1 : m * NB f ≤ 22 * NB f := Nat.mul_le_mul_right _ (by omega)
    have e2 : m * (FB f + 1) ≤ 22 * (FB f + 1) := Nat.mul_le_mul_right _ (by omega)
    have := h0.n
    have := h0.f
    omega)
  have BQ : Hid (∀ m j, m + 1 < (kidsL ss k).length → (stepG ss f (SQ m).1 j).1.flows.length ≤ 1000000000000) := hid (fun m j hm => by
    have := (hfew (SQ m).1 j).f
    have := (BL.out m hm).2
    omega)
  have B0' : Hid (g.nodes.length + NB f ≤ 1000000000000 ∧ g.flows.length + FB f ≤ 1000000000000) := hid (by omega)
  have HSg := hid HSG
  have HG := hid h
  have HSB := hid hb
  obtain ⟨aq, cq, rfl⟩ := hs.slice
  obtain ⟨g1, o1, vc1, ve1, rfl, hg1, p0, p1, p2, p3, p4, p5, hc1, he1⟩ := hs.at hk
  have q1 : (k : Int) < (ss.length : Int) := by omega
  have b0 := old_cell hb hg1 p0
  have zg := Nat.lt_of_lt_of_le hg1 hb.size
  rw [hkd] at b0
  have HQ0 := hid hq0
  clear h hs hb HSG hSQ hNB hFB hn hfb hd hsf hfew h0 p0 p1 p2 p3 p4 p5 hc1 he1 hkd hq0
  generalize kidsL ss k = ks at *
  go_enter Tryz.func33, Tryz.ntmps33
  go_wp2_with fail
  refine HK.out.mono ?_
  rintro e w2 ⟨⟨u, rfl, ho⟩, hb2⟩
  obtain ⟨bk, cap, rfl, hbk1, hbk2, hcp, _⟩ := Nst.own_some ho hL
  have HLM : Hid (LM wp w2 w2 P bk S S ks g (.slice none 0 0) []) := hid (by
    refine ⟨HG.out.below hb2, Fr.refl _ _ _, (fun e => by have := HG.out.owns bk e; omega), (fun b e => by cases e), fun i hi => (ho.cellAt i (by omega)).trans (by simp [kidVals, hi]), World.ownsRow_nil _ _ _ 1, HSB.out.trans (hb2.mono HSB.out.size)⟩)
  have HF2 : Hid (Fr w w2 P S S) := hid (Fr.of_below hb2)
  have hbP : bk ≠ P := by have := HG.out.lt; omega
  have c0 := HLM.out.kid 0 hL
  have hkm := HKM.out 0 hL
  have HS1 := hid (HSg.out P S g ks[0] w2 hwp HLM.out.st HLM.out.gb hkm.1 hkm.2 B0'.out.1 B0'.out.2)
  rw [← HQ0.out] at HS1
  generalize ks[0] = j at *
  clear ho hb2 HG HSB HK b0 zg
  go_wp2_with fail
  refine HS1.out.mono ?_
  rintro e w3 ⟨rfl, S3, hG3, hF3⟩
  have HL3 : Hid (LM wp w2 w3 P bk S S3 ks (SQ 0).1 (.slice none 0 0) []) := hid (HLM.out.turn hbk2 hbP hwp (by rw [HS0.out]; exact hG3) hF3)
  have ho0 : (SQ 0).2 = q0.2.2 := by rw [HS0.out]
  rw [← ho0]
  clear hG3 hF3 HLM HS1 c0 hkm HS0 HQ0 ho0
  go_wp2_with fail
  go_loopw [11, 12, 13, 14] (fun o i _ _ wr => ∃ m : Nat, i = .int .i64 ((m + 1 : Nat) : Int) ∧ m + 1 ≤ ks.length ∧ o = .int .i64 ((SQ m).2 : Int) ∧ Hid (∃ S', LM wp w2 wr P bk S S' ks (SQ m).1 (.slice none 0 0) [])) (fun _ i _ _ _ => ks.length - (intOf i).toNat)
  case atStart => exact ⟨0, rfl, by omega, rfl, hid ⟨S3, HL3.out⟩⟩
  case round =>
    obtain ⟨m, rfl, hm, rfl, HX⟩ := hrel
    obtain ⟨S', hLM⟩ := HX.out
    have HL := hid hLM
    clear hLM HX
    by_cases hmt : m + 1 < ks.length
    · have q2 : ((m + 1 : Nat) : Int) < (ks.length : Int) := by omega
      have c1 := HL.out.kid (m + 1) hmt
      have zb := cell_lt c1
      have hkm := HKM.out (m + 1) hmt
      have HMN := hid (HSS.out m hmt)
      have HBQ := hid (fun j => BQ.out m j hmt)
      have HBL := hid (BL.out m hmt)
      generalize ks[m + 1] = j at *
      obtain ⟨q, hq⟩ : ∃ q, q = stepG ss f (SQ m).1 j := ⟨_, rfl⟩
      have HB1 := hid (HBQ.out j)
      have HSTP := hid (HSg.out P S' (SQ m).1 j wr hwp HL.out.st HL.out.gb hkm.1 hkm.2 HBL.out.1 HBL.out.2)
      rw [← hq] at HSTP HMN HB1
      clear hq
      generalize (SQ m).2 = om at *
      go_wp2_with fail
      refine HSTP.out.mono ?_
      rintro e w4 ⟨rfl, S4, hG4, hF4⟩
      have HL4 := hid (HL.out.turn zb hbP hwp hG4 hF4)
      have zb4 := Nat.lt_of_lt_of_le zb hF4.size
      clear hG4 hF4 HL HSTP c1
      go_wp2_with fail
      refine (specLink P 0 S4 q.1 ⟨(om : Int), (q.2.1 : Int), []⟩ (.slice none 0 0) w4 HL4.out.gb (nil_at _) (Nat.zero_le _) HB1.out).mono ?_
      rintro e w5 ⟨⟨r5, rfl⟩, S5, hG5, hF5⟩
      have hL5 := HL4.out.turn zb4 hbP hwp hG5 hF5
      go_wp2
      refine ⟨⟨m + 1, by simp, by omega, by rw [HMN.out], hid ⟨S5, by rw [HMN.out]; exact hL5⟩⟩, by simp [intOf]; omega⟩
    · have q2 : ¬ ((m + 1 : Nat) : Int) < (ks.length : Int) := by omega
      have HME := hid (show ks.length - 1 = m by omega)
      go_wp2
      go_ret2
      rw [HEQ.out, HME.out]
      exact ⟨rfl, S', HL.out.gb, HF2.out.trans HL.out.fr⟩
end Gr
end Go.Proofs.YtfgckeoigkoflaaGreatDoor
