/- Laid together: EoR, GoM, DkC, FrG, DkB. -/
import Derived.Test.YtccklgopcjilcaaGreatDoorJCT39
import Derived.Test.YtccklgopcjilcaaGreatDoorJCT4
import Derived.Test.YtccklgopcjilcaaGreatDoorJCT15
import Derived.Test.YtccklgopcjilcaaGreatDoorJCT40
/- Whether the law's marks still stand in an engine that a function has made itself, and the comparison of two answers. -/
namespace Go.Proofs.YtccklgopcjilcaaGreatDoor
open Go.RowKit Go.Deep
set_option linter.unusedVariables false
namespace Eo
open Ex (hid)
open St (StepD)
open Ei (InstD)
open En (EngD)
open Nst (own own_lt)
open Ch (blk_cell new_blk blk_lt new_at)
theorem kE_pos {k0:Nat} {e:EngD} (hf:FewE e) (h0:0<k0):0<kE k0 e:=by
 have h1:=kI_le (k0:=(kP k0 e.procs e.procs.length:Int)) hf.insts e.insts.length (Nat.le_refl _)
 have h2:=kP_pos h0 e.procs e.procs.length
 unfold kE;omega
set_option maxRecDepth 100000 in
set_option maxHeartbeats 2000000 in
theorem heldE (B k0:Nat) (e:EngD) (n:Int) (vp vi:Value) (w:World) (hf:FewE e) (h0:0<k0) (hk0:k0≤800000) (h:En.At w B vp vi (mkE k0 e)):
    Calls Tryz.prog 79 #[.agg #[vp,vi,.int .i64 n],.int .i64 (k0:Int)] w fun z w'=>z=.returned (.int .i64 (kE k0 e))∧Below w.heap.size w w':=by
 obtain ⟨a1,k1,hv1⟩:=h.procs.slice
 obtain ⟨a2,k2,hv2⟩:=h.insts.slice
 rw [mkE_np] at hv1
 rw [mkE_ni] at hv2
 subst hv1 hv2
 obtain ⟨w0,e0⟩:∃w0,w0=w.alloc (.cells #[.slice a1 e.procs.length k1,.slice a2 e.insts.length k2,.int .i64 n] 27):=⟨_,rfl⟩
 have hb0:Below w.heap.size w w0:=by rw [e0];exact (Below.refl _ w).alloc (Nat.le_refl _) _
 have K0:w0.heap[w.heap.size]?=some (.cells #[.slice a1 e.procs.length k1,.slice a2 e.insts.length k2,.int .i64 n] 27):=by rw [e0];exact new_blk _ _
 have HI0:=hid (h.below hb0).insts
 have HM1:=hid (heldP B k0 e.procs _ w0 hf.procs h0 hk0 (h.below hb0).procs)
 have HF:=hid hf
 have HB0:=hid hb0
 have hkp:=kP_le (k0:=k0) hf.procs e.procs.length (Nat.le_refl _)
 have hpp:=kP_pos h0 e.procs e.procs.length
 have hl:=hf.procs.len
 have hkb:(kP k0 e.procs e.procs.length:Int)≤1000000:=by omega
 have q1:¬(kP k0 e.procs e.procs.length:Int)<0:=by omega
 have hke:=kE_pos hf h0
 have q2:¬kI (kP k0 e.procs e.procs.length:Int) e.insts e.insts.length<0:=by unfold kE at hke;omega
 clear h hb0 hf hkp hl hke
 go_enter Tryz.func79,Tryz.ntmps79
 go_wp2_with fail
 rw [←e0]
 clear e0
 refine HM1.out.mono ?_
 rintro z w1 ⟨rfl,hb1⟩
 have HB1:=hid (HB0.out.trans (hb1.mono HB0.out.size))
 have K1:w1.heap[w.heap.size]?=some (.cells #[.slice a1 e.procs.length k1,.slice a2 e.insts.length k2,.int .i64 n] 27):=(hb1.block _ (blk_lt K0)).trans K0
 have c1:w1.cell? ⟨w.heap.size,1,none⟩=some (.slice a2 e.insts.length k2):=by rw [blk_cell K1];rfl
 have m1:=blk_lt K1
 have HM2:=hid (heldI B (kP k0 e.procs e.procs.length:Int) e.insts _ w1 HF.out.insts (by omega) hkb (HI0.out.below hb1))
 clear hb1 K0 K1 HM1 hpp
 go_wp2_with fail
 refine HM2.out.mono ?_
 rintro z w2 ⟨rfl,hb2⟩
 have HB2:=hid (HB1.out.trans (hb2.mono HB1.out.size))
 clear hb2
 go_wp2
 go_ret
 exact ⟨rfl,HB2.out⟩
end Eo
end Go.Proofs.YtccklgopcjilcaaGreatDoor
/- How long what a step of a process without a fault has can be. -/
namespace Go.Proofs.YtccklgopcjilcaaGreatDoor
set_option linter.unusedVariables false
namespace Gr
open Ex (inR eFault)
open St (StepD)
open Tr (nf)
open Pf (PJ PJ_eq pFault of_p of_one first_all formOk partC linkC)
theorem nf8 {l:List UInt8} (h:nf l=0):l.length≤8:=by
 unfold nf at h
 split at h
 ·cases h
 split at h
 ·cases h
 split at h
 ·cases h
 omega
theorem few {ss:List StepD} (h:pFault ss=0) {i:Nat} (hi:i<ss.length):ss[i].name.size≤8∧ss[i].cond.length≤16∧ss[i].expr.length≤16:=by
 obtain ⟨_,h1,h2,h3⟩:=of_p h
 have e:=of_one (first_all h1 hi)
 have e2:=first_all h2 hi
 rw [PJ_eq hi] at e
 obtain ⟨f,_,_,_,p⟩:=e
 unfold formOk at f
 have fb:Pf.bare ss[i]=true:=(Bool.and_eq_true _ _ ▸ f).2
 unfold partC at p
 unfold Pf.bare at fb
 rw [Bool.and_eq_true,Bool.and_eq_true] at fb
 obtain ⟨⟨b1,b2⟩,b3⟩:=fb
 refine ⟨?_,?_,?_⟩
 ·by_cases hk:ss[i].kind=2
  ·by_cases hn:nf ss[i].name.data.toList=0
   ·exact nf8 hn
   ·rw [if_pos ⟨hk,hn⟩] at p;exact absurd p hn
  ·have hz:ss[i].name.toList.isEmpty=true:=by
    rcases Bool.or_eq_true_iff.1 b1 with q | q
    ·exact absurd (by simpa using q) hk
    ·exact q
   rw [ByteArray.toList_eq,List.isEmpty_iff] at hz
   have:ss[i].name.data.toList.length=0:=by rw [hz];rfl
   have e3:ss[i].name.data.toList.length=ss[i].name.size:=rfl
   omega
 ·by_cases hc:0<ss[i].cond.length
  ·unfold linkC at e2
   rw [PJ_eq hi] at e2
   split at e2
   ·cases e2
   split at e2
   ·cases e2
   try rw [if_pos hc] at e2
   exact (Ex.of_e e2).2.1
  ·omega
 ·by_cases hk:ss[i].kind=7
  ·rw [if_neg (by omega)] at p
   split at p
   ·cases p
   try rw [if_pos hk] at p
   exact (Ex.of_e p).2.1
  ·rcases Bool.or_eq_true_iff.1 b3 with q | q
   ·exact absurd (by simpa using q) hk
   ·have:ss[i].expr.length=0:=by simpa using q
    omega
end Gr
end Go.Proofs.YtccklgopcjilcaaGreatDoor
/- The law's comparison of desks. -/
namespace Go.Proofs.YtccklgopcjilcaaGreatDoor
open Go.RowKit Go.Deep
set_option linter.unusedVariables false
namespace Dk
open Ex (hid)
open St (StepD old_cell old_free setB)
open Ei (InstD)
open En (EngD)
open Cl (ClD)
open Ch (blk_set blk_cell blk_free new_blk new_at blk_lt)
set_option maxRecDepth 100000 in
set_option maxHeartbeats 2000000 in
theorem eq (B1 B2:Nat) (d:DeskD) (vp vi vc up ui uc:Value) (w:World) (hl:Small 1048576 d) (h1:At w B1 vp vi vc d) (h2:At w B2 up ui uc d):
    Calls Tryz.prog 40 #[.agg #[vp,vi,.int .i64 d.eng.now,vc],.agg #[up,ui,.int .i64 d.eng.now,uc]] w fun z w'=>z=.returned (.bool true)∧Below w.heap.size w w':=by
 obtain ⟨⟨a1,k1,rfl⟩,⟨a2,k2,rfl⟩,a3,k3,rfl⟩:=h1.slices
 obtain ⟨⟨b1,l1,rfl⟩,⟨b2,l2,rfl⟩,b3,l3,rfl⟩:=h2.slices
 obtain ⟨w0,e0⟩:∃w0,w0=(w.alloc (.cells #[.slice a1 d.eng.procs.length k1,.slice a2 d.eng.insts.length k2,.int .i64 d.eng.now,.slice a3 d.claims.length k3] 30)).alloc (.cells #[.slice b1 d.eng.procs.length l1,.slice b2 d.eng.insts.length l2,.int .i64 d.eng.now,.slice b3 d.claims.length l3] 30):=⟨_,rfl⟩
 have hB:Below w.heap.size w w0:=by rw [e0];exact ((Below.refl _ w).alloc (Nat.le_refl _) _).alloc (by simp) _
 have K0:w0.heap[w.heap.size]?=some (.cells #[.slice a1 d.eng.procs.length k1,.slice a2 d.eng.insts.length k2,.int .i64 d.eng.now,.slice a3 d.claims.length k3] 30):=by rw [e0,Below.heap_alloc _ _ _ (by simp),new_blk]
 have K1:w0.heap[w.heap.size+1]?=some (.cells #[.slice b1 d.eng.procs.length l1,.slice b2 d.eng.insts.length l2,.int .i64 d.eng.now,.slice b3 d.claims.length l3] 30):=by rw [e0];exact new_at (by simp) _
 have H1:=hid (h1.below hB)
 have H2:=hid (h2.below hB)
 have HB:=hid hB
 have HL:=hid hl
 have HE:=hid (En.eq B1 B2 d.eng _ _ _ _ w0 HL.out.eng H1.out.eng H2.out.eng)
 clear h1 h2 hB hl
 go_enter Tryz.func40,Tryz.ntmps40
 go_wp2_with fail
 rw [←e0]
 clear e0
 refine HE.out.mono ?_
 rintro z w1 ⟨rfl,hb1⟩
 have HB1:=hid (HB.out.trans (hb1.mono HB.out.size))
 have K0a:=hid ((hb1.block _ (blk_lt K0)).trans K0)
 have K1a:=hid ((hb1.block _ (blk_lt K1)).trans K1)
 have c0:w1.cell? ⟨w.heap.size,3,none⟩=some (.slice a3 d.claims.length k3):=by rw [blk_cell K0a.out];rfl
 have c1:w1.cell? ⟨w.heap.size+1,3,none⟩=some (.slice b3 d.claims.length l3):=by rw [blk_cell K1a.out];rfl
 have HE2:=hid (Cl.eqS B1 B2 d.claims _ _ w1 (by have:=HL.out.claims;omega) (H1.out.below hb1).claims (H2.out.below hb1).claims)
 have m0:=blk_lt K0a.out
 have m1:=blk_lt K1a.out
 clear hb1 K0 K1 HB H1 H2 HE
 go_wp2_with fail
 refine HE2.out.mono ?_
 rintro z w2 ⟨rfl,hb2⟩
 have HB2:=hid (HB1.out.trans (hb2.mono HB1.out.size))
 clear hb2 K0a K1a c0 c1 m0 m1 HB1
 go_wp2
 go_ret
 exact ⟨rfl,HB2.out⟩
end Dk
end Go.Proofs.YtccklgopcjilcaaGreatDoor
/- Answers of the desk: what they own, their comparison, marks and holds. No condition. -/
namespace Go.Proofs.YtccklgopcjilcaaGreatDoor
open Go.RowKit Go.Deep
set_option linter.unusedVariables false
set_option linter.unusedSimpArgs false
namespace Fr
open Go.ChangeMaps (setBlock)
open En (EngD)
open Cl (ClD)
open Eg (engC)
open Ex (hid)
open Pf (Rul)
open Dk (DeskD deskC askC heldC isU hasI openT ents of_ask of_held of_d of_claims of_claim of_one CJ CJ_eq oneC claimC claimsC TPost rg_ask look)
open Ds (Rise rise_of without ents_without insertC insert_perm insert_rise ents_snoc same_of LPost)
open Of (who who_or COwn)
open Eo (EOwn EOwnC PRow IRow)
open Ch (blk_cell blk_lt blk_free blk_set new_blk new_at)
open Eo (FewE FewP FewI mkE kE Chg)
open Cl (marksN)
open St (StepD)
open Eg (procsC of_e)
theorem few_p {ps:List (List StepD)} (h:procsC ps=0):FewP ps:=by
 unfold procsC at h
 by_cases hl:ps.length<1∨3<ps.length
 ·rw [if_pos hl] at h;cases h
 ·rw [if_neg hl] at h
  have ha:=Eg.nz_all h
  refine ⟨by omega,fun j hj=>?_⟩
  rw [Eo.PJs_eq hj]
  have hp:=ha _ (List.getElem_mem hj)
  have hn:=Pf.of_p hp
  refine ⟨by omega,fun i hi=>?_⟩
  rw [So.SJ_eq hi]
  have:=Gr.few hp hi
  omega
theorem few_e {e:EngD} (h:engC e=0):FewE e:=by
 obtain ⟨h1,h2,h3,_,h5⟩:=of_e h
 refine ⟨few_p (by rw [Eg.p_few (by omega)];exact h3),by omega,fun j hj=>?_⟩
 rw [Eo.IJ_eq hj]
 obtain ⟨i2,i3,_⟩:=Eg.of_i (Eg.nz_all h5 _ (List.getElem_mem hj))
 obtain ⟨c1,c2,_⟩:=Kc.of_c i3
 have hn:=(Pf.of_p c1).1
 obtain ⟨m1,m2,m3,_⟩:=Kc.of_num c2
 have hv:e.insts[j].chart.vars.length=4:=by
  by_cases h4:e.insts[j].chart.vars.length=4
  ·exact h4
  ·have:=(Kc.of_state m1).2.2
   rw [Ex.v_len h4] at this
   cases this
 omega
theorem few_none:FewE ⟨[],[],0⟩:=⟨⟨by simp,fun j hj=>by simp at hj⟩,⟨by simp,fun j hj=>by simp at hj⟩⟩
structure FewD (d:DeskD):Prop where
 eng:FewE d.eng
 claims:d.claims.length≤61
theorem few_of {d:DeskD} (h:deskC d=0) (cs:List ClD) (hc:cs.length≤61):FewD ⟨d.eng,cs⟩:=⟨few_e (of_d h).1,hc⟩
theorem claim_few (d:DeskD) (u i s:Int):FewD (claimD d u i s):=by
 by_cases h:claimTC d u i s=0
 ·rw [claim_ok h]
  have ha:askC d u i s=0:=by
   by_cases ha:askC d u i s=0
   ·exact ha
   ·rw [ct_ask ha] at h;exact h
  have hd:=(of_ask ha).1
  exact few_of hd _ (by rw [insert_len];have:=(of_d hd).2.1;omega)
 ·rw [claim_bad rfl h];exact ⟨few_none,Nat.zero_le _⟩
theorem claim_small {d:DeskD} (u i s:Int) (h:Dk.Small 1048576 d):Dk.Small 1048576 (claimD d u i s):=by
 have hf:=claim_few d u i s
 by_cases hz:claimTC d u i s=0
 ·rw [claim_ok hz] at hf ⊢
  exact ⟨h.eng,by have:=hf.claims;dsimp only at this ⊢;omega⟩
 ·rw [claim_bad rfl hz]
  exact ⟨⟨⟨by simp,fun x h=>by cases h⟩,⟨by simp,fun x h=>by cases h⟩,by simp [Ep.wt]⟩,by simp⟩
structure AOwn (w:World) (B C:Nat) (vp vi vc:Value) (d:DeskD):Prop where
 ex:∃M,EOwnC w B M vp vi d.eng∧COwn w M vc d.claims∧B≤M∧M≤C∧∀b,vc.ownBlock=some b→b<C
theorem AOwn.keep {w w':World} {B C:Nat} {vp vi vc:Value} {d:DeskD} (h:AOwn w B C vp vi vc d) (hs:w.heap.size≤w'.heap.size) (hb:∀b,B≤b→b<C→b<w.heap.size→w'.heap[b]?=w.heap[b]?):AOwn w' B C vp vi vc d:=by
 obtain ⟨M,h1,h2,h3,h4,h5⟩:=h.ex
 exact ⟨M,h1.keep hs (fun b b1 b2 b3=>hb b b1 (by omega) b3),h2.kept (fun b e=>hb b (by have:=(h2.lt e).1;omega) (h5 b e) (h2.lt e).2),h3,h4,h5⟩
theorem AOwn.below {w w':World} {B C:Nat} {vp vi vc:Value} {d:DeskD} (h:AOwn w B C vp vi vc d) (hb:Below w.heap.size w w'):AOwn w' B C vp vi vc d:=h.keep hb.size (fun b _ _ hl=>hb.block b hl)
theorem AOwn.at' {w:World} {B C:Nat} {vp vi vc:Value} {d:DeskD} (h:AOwn w B C vp vi vc d):Dk.At w B vp vi vc d:=by
 obtain ⟨M,h1,h2,h3,h4,h5⟩:=h.ex
 exact ⟨h1.own.at',h2.at'.mono h3⟩
theorem AOwn.of {d:DeskD} {w w':World} {vp vi vc:Value} {M:Nat} (h1:EOwnC w' w.heap.size M vp vi d.eng) (h2:COwn w' M vc d.claims) (h3:w.heap.size≤M) (h4:M≤w'.heap.size):AOwn w' w.heap.size w'.heap.size vp vi vc d:=⟨M,h1,h2,h3,h4,fun b e=>(h2.lt e).2⟩
def kD (d:DeskD):Int:=kE 1 d.eng+3*(d.claims.length:Int)
structure AMark (w:World) (vp vi vc:Value) (d:DeskD):Prop where
 eng:En.At w 0 vp vi (mkE 1 d.eng)
 claims:Cl.At w 0 vc (marksN (kE 1 d.eng) d.claims.length)
theorem AMark.below {w w':World} {vp vi vc:Value} {d:DeskD} (h:AMark w vp vi vc d) (hb:Below w.heap.size w w'):AMark w' vp vi vc d:=⟨h.eng.below hb,h.claims.below hb⟩
theorem kE_bound {e:EngD} (h:FewE e):0<kE 1 e∧kE 1 e≤17592186044000:=by
 have hp:=Eo.kP_le (k0:=1) h.procs e.procs.length (Nat.le_refl _)
 have h1:=Eo.kI_le (k0:=(Eo.kP 1 e.procs e.procs.length:Int)) h.insts e.insts.length (Nat.le_refl _)
 have h2:=Eo.kP_pos (k0:=1) (by omega) e.procs e.procs.length
 have h3:=h.procs.len
 have h4:=h.insts.len
 unfold kE
 constructor <;> omega
theorem kD_pos {d:DeskD} (h:FewD d):0<kD d:=by have:=(kE_bound h.eng).1;unfold kD;omega
set_option maxRecDepth 100000 in
set_option maxHeartbeats 2000000 in
theorem markD (B C:Nat) (d:DeskD) (vp vi vc:Value) (w:World) (hf:FewD d) (h:AOwn w B C vp vi vc d) (hC:C≤w.heap.size):
    Calls Tryz.prog 41 #[.agg #[vp,vi,.int .i64 d.eng.now,vc],.int .i64 1] w fun z w'=>z=.returned (.int .i64 (kD d))∧AMark w' vp vi vc d∧Chg (fun b=>B≤b∧b<C) w w':=by
 obtain ⟨⟨a1,k1,rfl⟩,⟨a2,k2,rfl⟩,a3,k3,rfl⟩:=h.at'.slices
 obtain ⟨M,h1,h2,hBM,hMC,hcC⟩:=h.ex
 obtain ⟨w0,e0⟩:∃w0,w0=w.alloc (.cells #[.slice a1 d.eng.procs.length k1,.slice a2 d.eng.insts.length k2,.int .i64 d.eng.now,.slice a3 d.claims.length k3] 30):=⟨_,rfl⟩
 have hb0:Below w.heap.size w w0:=by rw [e0];exact (Below.refl _ w).alloc (Nat.le_refl _) _
 have K0:Hid (w0.heap[w.heap.size]?=some (.cells #[.slice a1 d.eng.procs.length k1,.slice a2 d.eng.insts.length k2,.int .i64 d.eng.now,.slice a3 d.claims.length k3] 30)):=hid (by rw [e0];exact new_blk _ _)
 have HM:=hid (Eo.markE B M 1 d.eng _ _ w0 hf.eng (by omega) (by omega) (h1.below hb0))
 have HC0:Hid (Chg (fun b=>B≤b∧b<C) w w0):=hid (Chg.of_below hb0)
 have H2:=hid (h2.below hb0)
 have HF:=hid hf
 have HI:=hid (show B≤M∧M≤C∧C≤w.heap.size from ⟨hBM,hMC,hC⟩)
 have HV:=hid hcC
 have HKD:=hid (show kD d=kE 1 d.eng+3*(d.claims.length:Int) from rfl)
 generalize kD d=kd at *
 clear h h1 h2 hb0 hf hBM hMC hcC hC
 go_enter Tryz.func41,Tryz.ntmps41
 go_wp2_with fail
 rw [←e0]
 clear e0
 refine HM.out.mono ?_
 rintro z w1 ⟨rfl,ho,hg⟩
 have hA:=(hg.block _ (blk_lt K0.out) (fun hy=>by have:=HI.out;omega)).trans K0.out
 have x3:=blk_cell hA 3
 have lA:=blk_lt hA
 have HO1:=hid ho
 have H21:=hid (H2.out.kept (fun b e=>hg.block b (H2.out.lt e).2 (fun hy=>by have:=(H2.out.lt e).1;omega)))
 have HC1:Hid (Chg (fun b=>B≤b∧b<C) w w1):=hid (HC0.out.trans (hg.mono (fun b hb=>by have:=HI.out;omega)))
 have HMC:=hid (Cl.markS M _ d.claims.length (Of.cvals d.claims) (kE 1 d.eng) w1 (by have:=HF.out.claims;omega) (kE_bound HF.out.eng).1 (by have:=(kE_bound HF.out.eng).2;omega) H21.out)
 clear ho hg hA K0 HM H2 HC0
 go_wp2_with fail
 refine HMC.out.mono ?_
 rintro z w2 ⟨rfl,hcm,hg2⟩
 have HE2:Hid (En.At w2 0 (.slice a1 d.eng.procs.length k1) (.slice a2 d.eng.insts.length k2) (mkE 1 d.eng)):=hid ((HO1.out.keep hg2.size (fun b _ hM hl=>hg2.block b hl (fun e=>by have:=(H21.out.lt e.symm).1;omega))).own.at'.mono (Nat.zero_le _))
 have HCM:=hid (hcm.mono (Nat.zero_le M))
 have HC2:Hid (Chg (fun b=>B≤b∧b<C) w w2):=hid ⟨hg2.os.trans HC1.out.os,hg2.tape.trans HC1.out.tape,hg2.output.trans HC1.out.output,Nat.le_trans HC1.out.size hg2.size,fun b hb hn=>(hg2.block b (Nat.lt_of_lt_of_le hb HC1.out.size) (fun e=>hn ⟨by have:=(H21.out.lt e.symm).1;have:=HI.out;omega,HV.out b e.symm⟩)).trans (HC1.out.block b hb hn)⟩
 clear hcm hg2 HMC x3 lA
 go_wp2
 go_ret
 exact ⟨by rw [HKD.out];rfl,⟨HE2.out,HCM.out⟩,HC2.out⟩
set_option maxRecDepth 100000 in
set_option maxHeartbeats 2000000 in
theorem markDR (B C:Nat) (cc:Int) (d:DeskD) (vp vi vc:Value) (w:World) (hf:FewD d) (h:AOwn w B C vp vi vc d) (hC:C≤w.heap.size):
    Calls Tryz.prog 42 #[.agg #[.int .i64 cc,.int .i64 0,vp,vi,.int .i64 d.eng.now,vc],.int .i64 1] w fun z w'=>z=.returned (.int .i64 (kD d))∧AMark w' vp vi vc d∧Chg (fun b=>B≤b∧b<C) w w':=by
 obtain ⟨⟨a1,k1,rfl⟩,⟨a2,k2,rfl⟩,a3,k3,rfl⟩:=h.at'.slices
 obtain ⟨w0,e0⟩:∃w0,w0=w.alloc (.cells #[.int .i64 cc,.int .i64 0,.slice a1 d.eng.procs.length k1,.slice a2 d.eng.insts.length k2,.int .i64 d.eng.now,.slice a3 d.claims.length k3] 73):=⟨_,rfl⟩
 have hb0:Below w.heap.size w w0:=by rw [e0];exact (Below.refl _ w).alloc (Nat.le_refl _) _
 have HM:=hid (markD B C d _ _ _ w0 hf (h.below hb0) (Nat.le_trans hC hb0.size))
 have HC0:Hid (Chg (fun b=>B≤b∧b<C) w w0):=hid (Chg.of_below hb0)
 generalize kD d=kd at *
 clear h hb0 hf hC
 go_enter Tryz.func42,Tryz.ntmps42
 go_wp2_with fail
 rw [←e0]
 clear e0
 refine HM.out.mono ?_
 rintro z w1 ⟨rfl,ho,hg⟩
 have HO1:=hid ho
 have HW1:=hid (HC0.out.trans hg)
 clear ho hg
 go_wp2
 go_ret
 exact ⟨rfl,HO1.out,HW1.out⟩
set_option maxRecDepth 100000 in
set_option maxHeartbeats 2000000 in
theorem heldD (d:DeskD) (n:Int) (vp vi vc:Value) (w:World) (hf:FewD d) (h:AMark w vp vi vc d):
    Calls Tryz.prog 92 #[.agg #[vp,vi,.int .i64 n,vc],.int .i64 1] w fun z w'=>z=.returned (.int .i64 (kD d))∧Below w.heap.size w w':=by
 obtain ⟨a1,k1,hv1⟩:=h.eng.procs.slice
 obtain ⟨a2,k2,hv2⟩:=h.eng.insts.slice
 obtain ⟨a3,k3,hv3⟩:=h.claims.slice
 rw [Eo.mkE_np] at hv1
 rw [Eo.mkE_ni] at hv2
 rw [Cl.marksN_len] at hv3
 subst hv1 hv2 hv3
 have hke:=kE_bound hf.eng
 have q3:¬kE 1 d.eng<0:=by omega
 have q4:¬kE 1 d.eng+3*(d.claims.length:Int)<0:=by omega
 obtain ⟨w0,e0⟩:∃w0,w0=w.alloc (.cells #[.slice a1 d.eng.procs.length k1,.slice a2 d.eng.insts.length k2,.int .i64 n,.slice a3 d.claims.length k3] 30):=⟨_,rfl⟩
 have hb0:Below w.heap.size w w0:=by rw [e0];exact (Below.refl _ w).alloc (Nat.le_refl _) _
 have K0:Hid (w0.heap[w.heap.size]?=some (.cells #[.slice a1 d.eng.procs.length k1,.slice a2 d.eng.insts.length k2,.int .i64 n,.slice a3 d.claims.length k3] 30)):=hid (by rw [e0];exact new_blk _ _)
 have HM:=hid (Eo.heldE 0 1 d.eng n _ _ w0 hf.eng (by omega) (by omega) (h.below hb0).eng)
 have HB:=hid hb0
 have HA0:=hid (h.below hb0)
 have hcl:=hf.claims
 have HKE:=hid hke
 have HKD:=hid (show kD d=kE 1 d.eng+3*(d.claims.length:Int) from rfl)
 generalize kD d=kd at *
 clear h hb0 hf hke
 go_enter Tryz.func92,Tryz.ntmps92
 go_wp2_with fail
 rw [←e0]
 clear e0
 refine HM.out.mono ?_
 rintro z w1 ⟨rfl,hb1⟩
 have HB1:=hid (HB.out.trans (hb1.mono HB.out.size))
 have hA:=(hb1.block _ (blk_lt K0.out)).trans K0.out
 have x3:=blk_cell hA 3
 have lA:=blk_lt hA
 have HMC:=hid (Cl.heldS 0 _ d.claims.length (kE 1 d.eng) w1 (by omega) HKE.out.1 (by have:=HKE.out.2;omega) (HA0.out.below hb1).claims)
 clear hb1 hA K0 HM HA0
 go_wp2_with fail
 refine HMC.out.mono ?_
 rintro z w2 ⟨rfl,hw2⟩
 replace hw2:=hw2.symm
 subst hw2
 clear HMC x3 lA
 go_wp2
 go_ret
 exact ⟨by rw [HKD.out];rfl,HB1.out⟩
set_option maxRecDepth 100000 in
set_option maxHeartbeats 2000000 in
theorem heldDR (cc:Int) (d:DeskD) (n:Int) (vp vi vc:Value) (w:World) (hf:FewD d) (h:AMark w vp vi vc d):
    Calls Tryz.prog 43 #[.agg #[.int .i64 cc,.int .i64 0,vp,vi,.int .i64 n,vc],.int .i64 1] w fun z w'=>z=.returned (.int .i64 (kD d))∧Below w.heap.size w w':=by
 obtain ⟨a1,k1,hv1⟩:=h.eng.procs.slice
 obtain ⟨a2,k2,hv2⟩:=h.eng.insts.slice
 obtain ⟨a3,k3,hv3⟩:=h.claims.slice
 rw [Eo.mkE_np] at hv1
 rw [Eo.mkE_ni] at hv2
 rw [Cl.marksN_len] at hv3
 subst hv1 hv2 hv3
 have q3:¬kD d<0:=by have:=kD_pos hf;omega
 obtain ⟨w0,e0⟩:∃w0,w0=w.alloc (.cells #[.int .i64 cc,.int .i64 0,.slice a1 d.eng.procs.length k1,.slice a2 d.eng.insts.length k2,.int .i64 n,.slice a3 d.claims.length k3] 73):=⟨_,rfl⟩
 have hb0:Below w.heap.size w w0:=by rw [e0];exact (Below.refl _ w).alloc (Nat.le_refl _) _
 have HM:=hid (heldD d n _ _ _ w0 hf (h.below hb0))
 have HB:=hid hb0
 generalize kD d=kd at *
 clear h hb0 hf
 go_enter Tryz.func43,Tryz.ntmps43
 go_wp2_with fail
 rw [←e0]
 clear e0
 refine HM.out.mono ?_
 rintro z w1 ⟨rfl,hb1⟩
 have HB1:=hid (HB.out.trans (hb1.mono HB.out.size))
 clear hb1
 go_wp2
 go_ret
 exact ⟨rfl,HB1.out⟩
set_option maxRecDepth 100000 in
set_option maxHeartbeats 2000000 in
theorem eqDR (B1 B2:Nat) (cc:Int) (d:DeskD) (vp vi vc up ui uc:Value) (w:World) (hl:Dk.Small 1048576 d) (h1:Dk.At w B1 vp vi vc d) (h2:Dk.At w B2 up ui uc d):
    Calls Tryz.prog 39 #[.agg #[.int .i64 cc,.int .i64 0,vp,vi,.int .i64 d.eng.now,vc],.agg #[.int .i64 cc,.int .i64 0,up,ui,.int .i64 d.eng.now,uc]] w fun z w'=>z=.returned (.bool true)∧Below w.heap.size w w':=by
 obtain ⟨⟨a1,k1,rfl⟩,⟨a2,k2,rfl⟩,a3,k3,rfl⟩:=h1.slices
 obtain ⟨⟨b1,l1,rfl⟩,⟨b2,l2,rfl⟩,b3,l3,rfl⟩:=h2.slices
 have e1:(cc != cc)=false:=by simp
 have e2:((0:Int) != 0)=false:=rfl
 obtain ⟨w0,e0⟩:∃w0,w0=(w.alloc (.cells #[.int .i64 cc,.int .i64 0,.slice a1 d.eng.procs.length k1,.slice a2 d.eng.insts.length k2,.int .i64 d.eng.now,.slice a3 d.claims.length k3] 73)).alloc (.cells #[.int .i64 cc,.int .i64 0,.slice b1 d.eng.procs.length l1,.slice b2 d.eng.insts.length l2,.int .i64 d.eng.now,.slice b3 d.claims.length l3] 73):=⟨_,rfl⟩
 have hb0:Below w.heap.size w w0:=by rw [e0];exact ((Below.refl _ w).alloc (Nat.le_refl _) _).alloc (by simp) _
 have HE:=hid (Dk.eq B1 B2 d _ _ _ _ _ _ w0 hl (h1.below hb0) (h2.below hb0))
 have HB:=hid hb0
 clear h1 h2 hl hb0
 go_enter Tryz.func39,Tryz.ntmps39
 go_wp2_with fail
 rw [←e0]
 clear e0
 refine HE.out.mono ?_
 rintro z w1 ⟨rfl,hb1⟩
 have HB1:=hid (HB.out.trans (hb1.mono HB.out.size))
 clear hb1
 go_wp2
 go_ret
 exact ⟨rfl,HB1.out⟩
end Fr
end Go.Proofs.YtccklgopcjilcaaGreatDoor
/- The law's copy of a desk, and what it owns. -/
namespace Go.Proofs.YtccklgopcjilcaaGreatDoor
open Go.RowKit Go.Deep
set_option linter.unusedVariables false
namespace Dk
open Ex (hid)
open St (StepD old_cell old_free setB)
open Ei (InstD)
open En (EngD)
open Cl (ClD)
open Ch (blk_set blk_cell blk_free new_blk new_at blk_lt)
set_option maxRecDepth 100000 in
set_option maxHeartbeats 4000000 in
theorem to2 (B:Nat) (d:DeskD) (vp vi vc:Value) (w:World) (hl:Small 1048576 d) (ha:At w B vp vi vc d):
    Calls Tryz.prog 37 #[.agg #[vp,vi,.int .i64 d.eng.now,vc]] w fun z w'=>∃up ui uc,z=.returned (.agg #[up,ui,.int .i64 d.eng.now,uc])∧At w' w.heap.size up ui uc d∧Own w' w.heap.size w'.heap.size up ui uc d∧Below w.heap.size w w':=by
 obtain ⟨⟨a1,k1,rfl⟩,⟨a2,k2,rfl⟩,a3,k3,rfl⟩:=ha.slices
 have HL:=hid hl
 have HA:=hid ha
 obtain ⟨w0,e0⟩:∃w0,w0=((w.alloc (.cells #[.slice a1 d.eng.procs.length k1,.slice a2 d.eng.insts.length k2,.int .i64 d.eng.now,.slice a3 d.claims.length k3] 50)).alloc (.cells #[.slice none 0 0,.slice none 0 0,.int .i64 0,.slice none 0 0] 30)).alloc (.cells #[.slice none 0 0,.slice none 0 0,.int .i64 0,.slice none 0 0] 30):=⟨_,rfl⟩
 have KB:Hid (Below w.heap.size w w0):=hid (by rw [e0];exact (((Below.refl _ w).alloc (Nat.le_refl _) _).alloc (by simp) _).alloc (by simp;omega) _)
 have K0:Hid (w0.heap[w.heap.size]?=some (.cells #[.slice a1 d.eng.procs.length k1,.slice a2 d.eng.insts.length k2,.int .i64 d.eng.now,.slice a3 d.claims.length k3] 50)):=hid (by rw [e0,Below.heap_alloc _ _ _ (by simp;omega),Below.heap_alloc _ _ _ (by simp),new_blk])
 have K1:Hid (w0.heap[w.heap.size+1]?=some (.cells #[.slice none 0 0,.slice none 0 0,.int .i64 0,.slice none 0 0] 30)):=hid (by rw [e0,Below.heap_alloc _ _ _ (by simp)];exact new_at (by simp) _)
 have K2:Hid (w0.heap[w.heap.size+1+1]?=some (.cells #[.slice none 0 0,.slice none 0 0,.int .i64 0,.slice none 0 0] 30)):=hid (by rw [e0];exact new_at (by simp) _)
 have HT:=hid (En.to2 B d.eng _ _ w0 HL.out.eng (HA.out.below KB.out).eng)
 clear ha hl
 go_enter Tryz.func37,Tryz.ntmps37
 go_wp2_with fail
 rw [←e0]
 clear e0
 refine HT.out.mono ?_
 rintro z w1 ⟨u1,u2,rfl,hu,ho,hb⟩
 obtain ⟨x1,y1,rfl⟩:=hu.procs.slice
 obtain ⟨x2,y2,rfl⟩:=hu.insts.slice
 have KB1:=hid (KB.out.trans (hb.mono KB.out.size))
 have z0:=blk_lt K2.out
 have K01:=hid ((hb.block _ (blk_lt K0.out)).trans K0.out)
 have K11:=hid ((hb.block _ (blk_lt K1.out)).trans K1.out)
 have K21:=hid ((hb.block _ (blk_lt K2.out)).trans K2.out)
 have g0:w1.cell? ⟨w.heap.size+1+1,0,none⟩=some (.slice none 0 0):=by rw [blk_cell K21.out];rfl
 have g1:w1.cell? ⟨w.heap.size+1+1,1,none⟩=some (.slice none 0 0):=by rw [blk_cell K21.out];rfl
 have g2:w1.cell? ⟨w.heap.size+1+1,2,none⟩=some (.int .i64 0):=by rw [blk_cell K21.out];rfl
 have j0:=blk_free K21.out 0
 have j1:=blk_free K21.out 1
 have j2:=blk_free K21.out 2
 have z1:=blk_lt K21.out
 have HU:=hid hu
 have HO:=hid ho
 have hbz:=hb.size
 clear hu ho KB K0 K1 K2 hb HT
 obtain ⟨wA,eA⟩:∃wA,wA=((w1.setCell ⟨w.heap.size+1+1,0,none⟩ (.slice x1 d.eng.procs.length y1)).setCell ⟨w.heap.size+1+1,1,none⟩ (.slice x2 d.eng.insts.length y2)).setCell ⟨w.heap.size+1+1,2,none⟩ (.int .i64 d.eng.now):=⟨_,rfl⟩
 have KBs:Hid (Below w.heap.size w wA):=hid (by rw [eA];exact setB (setB (setB KB1.out (by omega) _) (by omega) _) (by omega) _)
 have hst:∀b,b≠w.heap.size+1+1→wA.heap[b]?=w1.heap[b]?:=fun b hb=>by rw [eA];repeat rw [Below.heap_setCell _ _ _ _ (by dsimp only;omega)]
 have K0s:=hid ((hst w.heap.size (by omega)).trans K01.out)
 have K1s:=hid ((hst (w.heap.size+1) (by omega)).trans K11.out)
 have K2s:Hid (wA.heap[w.heap.size+1+1]?=some (.cells #[.slice x1 d.eng.procs.length y1,.slice x2 d.eng.insts.length y2,.int .i64 d.eng.now,.slice none 0 0] 30)):=hid (by rw [eA];have:=blk_set (i:=2) (blk_set (i:=1) (blk_set (i:=0) K21.out (.slice x1 d.eng.procs.length y1)) (.slice x2 d.eng.insts.length y2)) (.int .i64 d.eng.now);simpa using this)
 have hsz:wA.heap.size=w1.heap.size:=by rw [eA];simp [World.setCell]
 have HUs:=hid ((HU.out.mono (B':=w.heap.size+1+1+1) (by omega)).kept (w':=wA) (Nat.le_of_eq hsz.symm) (fun g hg _=>hst g (by omega)))
 have HOs:=hid ((HO.out.mono (B':=w.heap.size+1+1+1) (by omega) (Nat.le_refl _)).kept (w':=wA) (fun g hg _ _=>hst g (by omega)))
 have e3:wA.cell? ⟨w.heap.size,3,none⟩=some (.slice a3 d.claims.length k3):=by rw [blk_cell K0s.out];rfl
 have z3:=blk_lt K2s.out
 have z4:=blk_lt K0s.out
 have HSZ:=hid hsz
 have HE3:=hid e3
 rw [eA] at e3
 have z5:w.heap.size<w1.heap.size:=by omega
 have HT2:=hid (Cl.toS2 B d.claims _ wA (by have:=HL.out.claims;omega) (HA.out.below KBs.out).claims)
 have z6:w.heap.size+1+1<w1.heap.size:=by omega
 have d3:w1.cell? ⟨w.heap.size,3,none⟩=some (.slice a3 d.claims.length k3):=by rw [blk_cell K01.out];rfl
 clear KB1 K01 K11 K21 HU HO hsz hst e3
 go_wp2_with fail
 rw [←eA]
 clear eA g0 g1 g2 j0 j1 j2 d3
 refine HT2.out.mono ?_
 rintro z w2 ⟨u3,rfl,hu,ho,hb⟩
 obtain ⟨x3,y3,rfl⟩:=hu.slice
 have KB2:=hid (KBs.out.trans (hb.mono KBs.out.size))
 have K02:=hid ((hb.block _ (blk_lt K0s.out)).trans K0s.out)
 have K12:=hid ((hb.block _ (blk_lt K1s.out)).trans K1s.out)
 have K22:=hid ((hb.block _ (blk_lt K2s.out)).trans K2s.out)
 have HU1:=hid (HUs.out.below hb)
 have HO1:=hid (HOs.out.below hb)
 have z12:w1.heap.size≤w2.heap.size:=by have:=hb.size;have:=HSZ.out;omega
 have HU2:=hid (hu.mono (show w.heap.size+1+1+1≤wA.heap.size by omega))
 have HO2:=hid (ho.mono (show w1.heap.size≤wA.heap.size by have:=HSZ.out;omega) (Nat.le_refl _))
 have c0:w2.cell? ⟨w.heap.size+1+1,0,none⟩=some (.slice x1 d.eng.procs.length y1):=by rw [blk_cell K22.out];rfl
 have c1:w2.cell? ⟨w.heap.size+1+1,1,none⟩=some (.slice x2 d.eng.insts.length y2):=by rw [blk_cell K22.out];rfl
 have c2:w2.cell? ⟨w.heap.size+1+1,2,none⟩=some (.int .i64 d.eng.now):=by rw [blk_cell K22.out];rfl
 have c3:w2.cell? ⟨w.heap.size+1+1,3,none⟩=some (.slice none 0 0):=by rw [blk_cell K22.out];rfl
 have d0:w2.cell? ⟨w.heap.size+1,0,none⟩=some (.slice none 0 0):=by rw [blk_cell K12.out];rfl
 have d1:w2.cell? ⟨w.heap.size+1,1,none⟩=some (.slice none 0 0):=by rw [blk_cell K12.out];rfl
 have d2:w2.cell? ⟨w.heap.size+1,2,none⟩=some (.int .i64 0):=by rw [blk_cell K12.out];rfl
 have d3:w2.cell? ⟨w.heap.size+1,3,none⟩=some (.slice none 0 0):=by rw [blk_cell K12.out];rfl
 have f3:=blk_free K22.out 3
 have i0:=blk_free K12.out 0
 have i1:=blk_free K12.out 1
 have i2:=blk_free K12.out 2
 have i3:=blk_free K12.out 3
 have m0:=blk_lt K02.out
 have m1:=blk_lt K12.out
 have m2:=blk_lt K22.out
 clear hu ho hb KBs K0s K1s K2s HUs HOs HSZ K02 K12 K22 HE3
 go_wp2
 refine bodyPost_ret (v:=.agg #[.slice x1 d.eng.procs.length y1,.slice x2 d.eng.insts.length y2,.int .i64 d.eng.now,.slice x3 d.claims.length y3]) (by simp [results,Tryz.results37,go_sem,d0,d1,d2,d3]) rfl ⟨_,_,_,rfl,⟨?_,?_⟩,⟨⟨w1.heap.size,by omega,by simpa [World.setCell] using z12,?_,?_⟩⟩,?_⟩
 ·exact (HU1.out.kept (by simp [World.setCell]) (fun g hg _=>by repeat rw [Below.heap_setCell _ _ _ _ (by dsimp only;omega)])).mono (by omega)
 ·exact (HU2.out.kept (by simp [World.setCell]) (fun g hg _=>by repeat rw [Below.heap_setCell _ _ _ _ (by dsimp only;omega)])).mono (by omega)
 ·exact (HO1.out.kept (fun g hg _ _=>by repeat rw [Below.heap_setCell _ _ _ _ (by dsimp only;omega)])).mono (by omega) (Nat.le_refl _)
 ·exact (HO2.out.kept (fun g hg _ _=>by repeat rw [Below.heap_setCell _ _ _ _ (by dsimp only;omega)])).mono (Nat.le_refl _) (by simp [World.setCell])
 ·exact setB (setB (setB (setB (setB KB2.out (by omega) _) (by omega) _) (by omega) _) (by omega) _) (by omega) _
end Dk
end Go.Proofs.YtccklgopcjilcaaGreatDoor
