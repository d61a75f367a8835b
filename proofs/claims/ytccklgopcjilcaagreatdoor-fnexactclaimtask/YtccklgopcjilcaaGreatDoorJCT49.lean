/- Laid together: ClaimTaskW, CtF. -/
import Derived.Test.YtccklgopcjilcaaGreatDoorJCT8
import Derived.Test.YtccklgopcjilcaaGreatDoorJCT42
import Derived.Test.YtccklgopcjilcaaGreatDoorJCT46
import Derived.Test.YtccklgopcjilcaaGreatDoorJCT47
import Derived.Test.YtccklgopcjilcaaGreatDoorJCT48
import Derived.Deep.RegionHeld3
import Derived.Test.YtccklgopcjilcaaGreatDoorRows
import Derived.KernelRfl
import Derived.JoinedCond
import Derived.ProofKit
/- Whatever desk, user, instance and step are handed in, ClaimTask answers as the specification's ClaimTask does, in code and in the desk, whose rows own their memory, behind another call too, and the desk that was handed in reads afterwards as before. Condition, tied to the program's own text: the table of rules holds what its initialiser lays. -/
namespace Go.Proofs.YtccklgopcjilcaaGreatDoor
open Go.ChangeShapes Go.WideShapes Go.ChangeAt Go.RowKit Go.Deep
open Go.ChangeMaps (open_string shut_string)
set_option linter.unusedVariables false
set_option linter.unusedSimpArgs false
namespace CtL
open Ex (hid)
open Pf (Rul)
open St (Amid)
open Dk (DeskD deskC askC heldC)
open Eo (Chg)
open Fr (AOwn AMark freeD claimD claimTC kD)
theorem blk_below {w w':World} {b:Nat} {o:Obj} (h:w.heap[b]?=some o) (hb:Below w.heap.size w w'):w'.heap[b]?=some o:=(hb.block b (Ch.blk_lt h)).trans h
theorem blk_amid {w w':World} {b B C:Nat} {o:Obj} (h:w.heap[b]?=some o) (hb:Amid w w' B C) (ho:b<B∨C≤b):w'.heap[b]?=some o:=(hb.block b (Ch.blk_lt h) ho).trans h
theorem blk_chg {w w':World} {b:Nat} {S:Nat→Prop} {o:Obj} (h:w.heap[b]?=some o) (hb:Chg S w w') (ho:¬S b):w'.heap[b]?=some o:=(hb.block b (Ch.blk_lt h) ho).trans h
theorem below_amid {x w w':World} {B C:Nat} (h:Below x.heap.size x w) (ha:Amid w w' B C) (hB:x.heap.size≤B):Below x.heap.size x w':=⟨ha.os.trans h.os,ha.tape.trans h.tape,ha.output.trans h.output,Nat.le_trans h.size ha.size,fun b hb=>(ha.block b (Nat.lt_of_lt_of_le hb h.size) (.inl (Nat.lt_of_lt_of_le hb hB))).trans (h.block b hb)⟩
theorem below_chg {x w w':World} {B M:Nat} (h:Below x.heap.size x w) (ha:Chg (fun b=>B≤b∧b<M) w w') (hB:x.heap.size≤B):Below x.heap.size x w':=Chg.below h ha (fun b hb=>by omega)
theorem new_below (w:World) (o:Obj):Below w.heap.size w (w.alloc o):=(Below.refl _ w).alloc (Nat.le_refl _) _
theorem to1 (B:Nat) (e:DeskD) (vp vi vc:Value) (w:World) (hl:Dk.Small 1048576 e) (ha:Dk.At w B vp vi vc e):
    Calls Tryz.prog 37 #[.agg #[vp,vi,.int .i64 e.eng.now,vc]] w fun z w'=>∃up ui uc,z=.returned (.agg #[up,ui,.int .i64 e.eng.now,uc])∧Dk.At w' w.heap.size up ui uc e∧Below w.heap.size w w':=
 (Dk.to2 B e vp vi vc w hl ha).mono (fun z w' ⟨up,ui,uc,h1,h2,_,h4⟩=>⟨up,ui,uc,h1,h2,h4⟩)
set_option maxRecDepth 100000 in
set_option maxHeartbeats 16000000 in
theorem walk (g:DeskD) (v1 v2 v3:Value) (u i s:Int) (w:World) (kg:Dk.Ok g) (h1:Dk.At w 0 v1 v2 v3 g) (hr:Rul w):
    Calls Tryz.prog 7 #[.agg #[v1,v2,.int .i64 g.eng.now,v3],.int .i64 u,.int .i64 i,.int .i64 s] w fun e w'=>e=.returned (.bool true)∧Below w.heap.size w w':=by
 have hgl:=hr.lt
 obtain ⟨⟨a1,c1,rfl⟩,⟨a2,c2,rfl⟩,a3,c3,rfl⟩:=h1.slices
 obtain ⟨w0,e0⟩:∃w0,w0=w.alloc (.cells #[.slice a1 g.eng.procs.length c1,.slice a2 g.eng.insts.length c2,.int .i64 g.eng.now,.slice a3 g.claims.length c3] 50):=⟨_,rfl⟩
 have hb0:Below w.heap.size w w0:=by rw [e0];exact new_below w _
 have hk0:w0.heap[w.heap.size]?=some (.cells #[.slice a1 g.eng.procs.length c1,.slice a2 g.eng.insts.length c2,.int .i64 g.eng.now,.slice a3 g.claims.length c3] 50):=by rw [e0];exact Ch.new_blk _ _
 have HZ1:=hid (Dk.sz 0 g _ _ _ 1048576 w0 (by omega) (by omega) kg (h1.below hb0))
 have H1:=hid h1
 have HR:=hid hr
 have HB0:=hid hb0
 clear h1 kg hr hb0
 go_enter Tryz.func7,Tryz.ntmps7
 go_wp2_with fail
 rw [←e0]
 clear e0
 refine HZ1.out.mono ?_
 rintro e w1 ⟨⟨r1,rfl,r1a,r1b,r1c⟩,hb1⟩
 have B1:=HB0.out.trans (hb1.mono HB0.out.size)
 have K1:Hid (w1.heap[w.heap.size]?=some (.cells #[.slice a1 g.eng.procs.length c1,.slice a2 g.eng.insts.length c2,.int .i64 g.eng.now,.slice a3 g.claims.length c3] 50)):=hid (blk_below hk0 hb1)
 clear hb1 hk0 HZ1 HB0
 by_cases q1:r1<0
 ·go_wp2
  go_ret
  exact ⟨rfl,B1⟩
 have S1:=hid (r1c (by omega))
 clear r1c
 have HT:=hid (fun w' (hb:Below w.heap.size w w')=>Dk.to2 0 g _ _ _ w' S1.out (H1.out.below hb))
 have HC1:=hid (fun w' (hb:Below w.heap.size w w')=>to1 0 g _ _ _ w' S1.out (H1.out.below hb))
 have HIK:=hid (fun u1 u2 u3 w' (hb:Below w.heap.size w w') (hu:Dk.At w' 0 u1 u2 u3 g)=>Fr.implClaim g u i s u1 u2 u3 w' S1.out hu (HR.out.below hb hgl))
 have HSK:=hid (fun u1 u2 u3 w' (hu:Dk.At w' 0 u1 u2 u3 g)=>Fr.specClaim 0 g u i s u1 u2 u3 w' S1.out hu)
 have SR:=hid (Fr.claim_small u i s S1.out)
 have FR:=hid (Fr.claim_few g u i s)
 clear H1
 generalize hxx:claimD g u i s=rr at *
 generalize hcc:claimTC g u i s=cc at *
 clear hcc hxx
 have d0:=Ch.blk_cell K1.out 0
 have d1:=Ch.blk_cell K1.out 1
 have d2:=Ch.blk_cell K1.out 2
 have d3:=Ch.blk_cell K1.out 3
 have lk:=Ch.blk_lt K1.out
 go_wp2_with fail
 refine (HC1.out _ B1).mono ?_
 rintro e q1 ⟨p1,p2,p3,rfl,hu,hb⟩
 obtain ⟨⟨s1,t1,rfl⟩,⟨s2,t2,rfl⟩,s3,t3,rfl⟩:=hu.slices
 have U1:=hid (hu.mono (Nat.zero_le _))
 have BW1:=B1.trans (hb.mono B1.size)
 have K2:Hid (q1.heap[w.heap.size]?=some (.cells #[.slice a1 g.eng.procs.length c1,.slice a2 g.eng.insts.length c2,.int .i64 g.eng.now,.slice a3 g.claims.length c3] 50)):=hid (blk_below K1.out hb)
 clear hu hb K1
 clear d0 d1 d2 d3 lk
 go_wp2_with fail
 refine (HSK.out _ _ _ _ U1.out).mono ?_
 rintro e q3 ⟨⟨s1v,s2v,s3v,sM,rfl,hO1,hO2,hO3,hO4⟩,hb3⟩
 have II3:=hid (AOwn.of hO1 hO2 hO3 hO4).at'
 obtain ⟨⟨m1,n1,rfl⟩,⟨m2,n2,rfl⟩,m3,n3,rfl⟩:=II3.out.slices
 have BW3:=BW1.trans (hb3.mono BW1.size)
 have K3:Hid (q3.heap[w.heap.size]?=some (.cells #[.slice a1 g.eng.procs.length c1,.slice a2 g.eng.insts.length c2,.int .i64 g.eng.now,.slice a3 g.claims.length c3] 50)):=hid (blk_below K2.out hb3)
 clear hO1 hO2 hO3 hO4 hb3 U1 K2 BW1 B1
 obtain ⟨wc,ewc⟩:∃wc,wc=q3.alloc (.cells #[.int .i64 cc,.int .i64 0,.slice m1 rr.eng.procs.length n1,.slice m2 rr.eng.insts.length n2,.int .i64 rr.eng.now,.slice m3 rr.claims.length n3] 73):=⟨_,rfl⟩
 have hbc:Below q3.heap.size q3 wc:=by rw [ewc];exact new_below q3 _
 obtain ⟨p,ep⟩:∃p,p=q3.heap.size:=⟨_,rfl⟩
 have PP:Hid (wc.heap[p]?=some (.cells #[.int .i64 cc,.int .i64 0,.slice m1 rr.eng.procs.length n1,.slice m2 rr.eng.insts.length n2,.int .i64 rr.eng.now,.slice m3 rr.claims.length n3] 73)):=hid (by rw [ewc,ep];exact Ch.new_blk _ _)
 have I0:=hid ((II3.out.mono (Nat.zero_le _)).below hbc)
 have B3:=BW3.trans (hbc.mono BW3.size)
 have KC:=hid (blk_below K3.out hbc)
 have D3:=hid K3.out
 have EP:=hid ep
 have EWC:=hid ewc
 have EL:=Ch.blk_lt PP.out
 clear hbc ep ewc II3 BW3 HSK K3
 have d0:=Ch.blk_cell D3.out 0
 have d1:=Ch.blk_cell D3.out 1
 have d2:=Ch.blk_cell D3.out 2
 have d3:=Ch.blk_cell D3.out 3
 have lk:=Ch.blk_lt D3.out
 go_wp2_with fail
 rw [←EWC.out,←EP.out]
 clear EWC EP D3 d0 d1 d2 d3 lk
 refine (HT.out _ B3).mono ?_
 rintro e w5 ⟨p1,p2,p3,rfl,hu5,hw5,hb5⟩
 obtain ⟨⟨x1,y1,rfl⟩,⟨x2,y2,rfl⟩,x3,y3,rfl⟩:=hu5.slices
 obtain ⟨w6,e6⟩:∃w6,w6=w5.alloc (.cells #[.slice x1 g.eng.procs.length y1,.slice x2 g.eng.insts.length y2,.int .i64 g.eng.now,.slice x3 g.claims.length y3] 30):=⟨_,rfl⟩
 have hx6:Below w5.heap.size w5 w6:=by rw [e6];exact new_below w5 _
 obtain ⟨X,eX⟩:∃X,X=w5.heap.size:=⟨_,rfl⟩
 have hb6:Below wc.heap.size wc w6:=hb5.trans (hx6.mono hb5.size)
 have X6:Hid (w6.heap[X]?=some (.cells #[.slice x1 g.eng.procs.length y1,.slice x2 g.eng.insts.length y2,.int .i64 g.eng.now,.slice x3 g.claims.length y3] 30)):=hid (by rw [e6,eX];exact Ch.new_blk _ _)
 have B6:=B3.trans (hb6.mono B3.size)
 have C6:=hid hb6
 have U6:=hid ((hu5.mono (Nat.zero_le _)).below hx6)
 have W6:=hid (hw5.below hx6)
 have l5:=hb5.size
 have n6:w5.heap.size<w6.heap.size:=by rw [e6];simp
 have LX:=hid eX
 have E6:=hid e6
 clear hu5 hw5 hb5 hx6 hb6 eX e6
 have HIM:=hid (HIK.out _ _ _ w6 B6 U6.out)
 go_wp2_with fail
 rw [←E6.out,←LX.out]
 clear E6
 refine HIM.out.mono ?_
 rintro e w9 ⟨⟨gp,gi,gc,gM,rfl,hg1,hg2,hg3,hg4⟩,hb9⟩
 have hO9:=AOwn.of hg1 hg2 hg3 hg4
 clear hg1 hg2 hg3 hg4
 obtain ⟨⟨h1,i1,rfl⟩,⟨h2,i2,rfl⟩,h3,i3,rfl⟩:=hO9.at'.slices
 obtain ⟨wa,ea⟩:∃wa,wa=w9.alloc (.cells #[.int .i64 cc,.int .i64 0,.slice h1 rr.eng.procs.length i1,.slice h2 rr.eng.insts.length i2,.int .i64 rr.eng.now,.slice h3 rr.claims.length i3] 73):=⟨_,rfl⟩
 have hxa:Below w9.heap.size w9 wa:=by rw [ea];exact new_below w9 _
 have hba:Below w6.heap.size w6 wa:=hb9.trans (hxa.mono hb9.size)
 obtain ⟨G,eG⟩:∃G,G=w9.heap.size:=⟨_,rfl⟩
 have Ga:Hid (wa.heap[G]?=some (.cells #[.int .i64 cc,.int .i64 0,.slice h1 rr.eng.procs.length i1,.slice h2 rr.eng.insts.length i2,.int .i64 rr.eng.now,.slice h3 rr.claims.length i3] 73)):=hid (by rw [ea,eG];exact Ch.new_blk _ _)
 have na:w9.heap.size<wa.heap.size:=by rw [ea];simp
 have l9:=hb9.size
 have LG:=hid eG
 have Oa:Hid (AOwn wa w6.heap.size G (.slice h1 rr.eng.procs.length i1) (.slice h2 rr.eng.insts.length i2) (.slice h3 rr.claims.length i3) rr):=hid (by rw [eG];exact hO9.below hxa)
 have Ba:=B6.trans (hba.mono B6.size)
 have Ca:=hid (C6.out.trans (hba.mono C6.out.size))
 have Ua:=hid (U6.out.below hba)
 have Wa:=hid (W6.out.below hba)
 have Xa:Hid (wa.heap[X]?=some (.cells #[.slice x1 g.eng.procs.length y1,.slice x2 g.eng.insts.length y2,.int .i64 g.eng.now,.slice x3 g.claims.length y3] 30)):=hid (blk_below X6.out hba)
 have P9:=blk_below PP.out (C6.out.trans (hb9.mono C6.out.size))
 have pp0:=Ch.blk_cell P9 0
 have pp1:=Ch.blk_cell P9 1
 have pp2:=Ch.blk_cell P9 2
 have pp3:=Ch.blk_cell P9 3
 have pp4:=Ch.blk_cell P9 4
 have pp5:=Ch.blk_cell P9 5
 have ppl:=Ch.blk_lt P9
 have EA:=hid ea
 clear P9 hO9 hb9 hxa hba U6 W6 C6 X6 HIM eG ea
 go_wp2_with fail
 rw [←EA.out,←LG.out]
 clear EA
 refine (Fr.eqDR _ _ cc rr _ _ _ _ _ _ wa SR.out Oa.out.at' (I0.out.below Ca.out)).mono ?_
 rintro e wb ⟨rfl,hbb⟩
 clear pp0 pp1 pp2 pp3 pp4 pp5 ppl
 have Gb:Hid (wb.heap[G]?=some (.cells #[.int .i64 cc,.int .i64 0,.slice h1 rr.eng.procs.length i1,.slice h2 rr.eng.insts.length i2,.int .i64 rr.eng.now,.slice h3 rr.claims.length i3] 73)):=hid (blk_below Ga.out hbb)
 have Ob:=hid (Oa.out.below hbb)
 have Ub:=hid (Ua.out.below hbb)
 have Wb:=hid (Wa.out.below hbb)
 have Xb:Hid (wb.heap[X]?=some (.cells #[.slice x1 g.eng.procs.length y1,.slice x2 g.eng.insts.length y2,.int .i64 g.eng.now,.slice x3 g.claims.length y3] 30)):=hid (blk_below Xa.out hbb)
 have Bb:=Ba.trans (hbb.mono Ba.size)
 have Cb:=hid (Ca.out.trans (hbb.mono Ca.out.size))
 have sb:=hbb.size
 clear Ga Oa Ua Wa Xa Ca
 clear hbb
 have HDd:Hid (wb.drew.heap[w.heap.size]?=some (.cells #[.slice a1 g.eng.procs.length c1,.slice a2 g.eng.insts.length c2,.int .i64 g.eng.now,.slice a3 g.claims.length c3] 50)∧wb.drew.heap[X]?=some (.cells #[.slice x1 g.eng.procs.length y1,.slice x2 g.eng.insts.length y2,.int .i64 g.eng.now,.slice x3 g.claims.length y3] 30)):=hid ⟨blk_below KC.out Cb.out.drew,Xb.out⟩
 have hBd:=Bb.drew
 have hdd:Below wb.heap.size wb wb.drew:=(Below.refl _ wb).drew
 have HUd:=hid (Ub.out.below hdd)
 go_wp2
 refine wp_region_held_drew (S:=fun wx=>wx.heap[w.heap.size]?=some (.cells #[.slice a1 g.eng.procs.length c1,.slice a2 g.eng.insts.length c2,.int .i64 g.eng.now,.slice a3 g.claims.length c3] 50)∧wx.heap[X]?=some (.cells #[.slice x1 g.eng.procs.length y1,.slice x2 g.eng.insts.length y2,.int .i64 g.eng.now,.slice x3 g.claims.length y3] 30)) (by kernel_rfl) HDd.out (fun hHeld=>?_)
 refine wpAnyH_take (i:=0) (v:=.agg #[.slice x1 g.eng.procs.length y1,.slice x2 g.eng.insts.length y2,.int .i64 g.eng.now,.slice x3 g.claims.length y3]) rfl (by kernel_rfl) (by kernel_rfl) (by kernel_rfl) (fun _ _ _ h=>h) (Or.inl ⟨by kernel_rfl,by intro w hSw;(try dsimp only at hSw);have m0:=Ch.blk_cell hSw.2 0;have m1:=Ch.blk_cell hSw.2 1;have m2:=Ch.blk_cell hSw.2 2;have m3:=Ch.blk_cell hSw.2 3;clear hSw;go_simp⟩) (by assumption) ?_
 simp only [Act.put,List.setIfInBounds_toArray,List.set_cons_zero,List.set_cons_succ]
 refine wpAnyH_take (i:=1) (v:=.agg #[.slice a1 g.eng.procs.length c1,.slice a2 g.eng.insts.length c2,.int .i64 g.eng.now,.slice a3 g.claims.length c3]) rfl (by kernel_rfl) (by kernel_rfl) (by kernel_rfl) (fun _ _ _ h=>h) (Or.inl ⟨by kernel_rfl,by intro w hSw;(try dsimp only at hSw);have m0:=Ch.blk_cell hSw.1 0;have m1:=Ch.blk_cell hSw.1 1;have m2:=Ch.blk_cell hSw.1 2;have m3:=Ch.blk_cell hSw.1 3;clear hSw;go_simp⟩) (by assumption) ?_
 simp only [Act.put,List.setIfInBounds_toArray,List.set_cons_zero,List.set_cons_succ]
 refine wpAnyH_ready (rs:=[2]) (by kernel_rfl) (by simp) ?_
 refine AllReadyH.cons rfl (fun K hK=>?_) AllReadyH.nil
 go_simp
 go_at_call 37
 refine (HC1.out _ hBd).mono ?_
 rintro e wf ⟨p1,p2,p3,rfl,hu,hbf⟩
 obtain ⟨⟨z1,k1,rfl⟩,⟨z2,k2,rfl⟩,z3,k3,rfl⟩:=hu.slices
 have HEC:=hid (Dk.eq _ _ g _ _ _ _ _ _ wf S1.out (HUd.out.below hbf) hu)
 have hdf:=hdd.trans (hbf.mono hdd.size)
 have HDf:Hid (wf.heap[w.heap.size]?=some (.cells #[.slice a1 g.eng.procs.length c1,.slice a2 g.eng.insts.length c2,.int .i64 g.eng.now,.slice a3 g.claims.length c3] 50)∧wf.heap[X]?=some (.cells #[.slice x1 g.eng.procs.length y1,.slice x2 g.eng.insts.length y2,.int .i64 g.eng.now,.slice x3 g.claims.length y3] 30)):=hid ⟨blk_below HDd.out.1 hbf,blk_below HDd.out.2 hbf⟩
 clear hu hbf
 go_wp2_with fail
 refine hK.out _ _ HDf.out (fun hHeld=>?_)
 clear hK K
 try simp only [Act.put,List.setIfInBounds_toArray,List.set_cons_zero,List.set_cons_succ]
 refine wpAnyH_ready (rs:=[3]) (by kernel_rfl) (by simp) ?_
 refine AllReadyH.cons rfl (fun K hK=>?_) AllReadyH.nil
 go_simp
 go_at_call 40
 refine HEC.out.mono ?_
 rintro e we ⟨rfl,hbe⟩
 have hde:=hdf.trans (hbe.mono hdf.size)
 have HDe:Hid (we.heap[w.heap.size]?=some (.cells #[.slice a1 g.eng.procs.length c1,.slice a2 g.eng.insts.length c2,.int .i64 g.eng.now,.slice a3 g.claims.length c3] 50)∧we.heap[X]?=some (.cells #[.slice x1 g.eng.procs.length y1,.slice x2 g.eng.insts.length y2,.int .i64 g.eng.now,.slice x3 g.claims.length y3] 30)):=hid ⟨blk_below HDf.out.1 hbe,blk_below HDf.out.2 hbe⟩
 clear hbe
 go_wp2_with fail
 refine hK.out _ _ HDe.out (fun hHeld=>?_)
 clear hK K
 try simp only [Act.put,List.setIfInBounds_toArray,List.set_cons_zero,List.set_cons_succ]
 refine wpAnyH_take (i:=4) (v:=.bool false) rfl (by kernel_rfl) (by kernel_rfl) (by kernel_rfl) (fun _ _ _ h=>h) (Or.inl ⟨by kernel_rfl,by intro w hSw;(try dsimp only at hSw);go_simp⟩) (by assumption) ?_
 simp only [Act.put,List.setIfInBounds_toArray,List.set_cons_zero,List.set_cons_succ]
 refine wpAnyH_done (by kernel_rfl) ?_ _
 clear hHeld HDd HDf HDe HEC HUd hBd hdf hdd
 have Ge:Hid (we.heap[G]?=some (.cells #[.int .i64 cc,.int .i64 0,.slice h1 rr.eng.procs.length i1,.slice h2 rr.eng.insts.length i2,.int .i64 rr.eng.now,.slice h3 rr.claims.length i3] 73)):=hid (blk_below Gb.out hde)
 have Oe:=hid (Ob.out.below hde)
 have We:=hid (Wb.out.below hde)
 have Xe:Hid (we.heap[X]?=some (.cells #[.slice x1 g.eng.procs.length y1,.slice x2 g.eng.insts.length y2,.int .i64 g.eng.now,.slice x3 g.claims.length y3] 30)):=hid (blk_below Xb.out hde)
 have Be:=Bb.trans (hde.mono Bb.size)
 have Ce:=hid (Cb.out.trans (hde.mono Cb.out.size))
 have se:=hde.size
 clear Gb Ob Wb Xb Cb
 clear hde Ub
 have d0:=Ch.blk_cell Xe.out 0
 have d1:=Ch.blk_cell Xe.out 1
 have d2:=Ch.blk_cell Xe.out 2
 have d3:=Ch.blk_cell Xe.out 3
 have lk:=Ch.blk_lt Xe.out
 have HMC:=hid (Dk.markA wc.heap.size w5.heap.size g _ _ _ we S1.out We.out (by omega))
 go_wp2_with fail
 refine HMC.out.mono ?_
 rintro e wj ⟨⟨rj,rfl,hrj⟩,ham⟩
 clear d0 d1 d2 d3 lk
 have Gj:Hid (wj.heap[G]?=some (.cells #[.int .i64 cc,.int .i64 0,.slice h1 rr.eng.procs.length i1,.slice h2 rr.eng.insts.length i2,.int .i64 rr.eng.now,.slice h3 rr.claims.length i3] 73)):=hid (blk_amid Ge.out ham (.inr (by have:=LG.out;omega)))
 have Oj:=hid (Oe.out.keep ham.size (fun b b1 b2 b3=>ham.block b b3 (.inr (by omega))))
 have Bj:=below_amid Be ham (by have:=B3.size;omega)
 have Cj:=hid (below_amid Ce.out ham (Nat.le_refl _))
 have sj:=ham.size
 clear Ge Oe Ce ham We Xe HMC
 have qk:¬rj<0:=by omega
 have PX:=blk_below PP.out Cj.out
 have pp0:=Ch.blk_cell PX 0
 have pp1:=Ch.blk_cell PX 1
 have pp2:=Ch.blk_cell PX 2
 have pp3:=Ch.blk_cell PX 3
 have pp4:=Ch.blk_cell PX 4
 have pp5:=Ch.blk_cell PX 5
 have ppl:=Ch.blk_lt PX
 clear PX
 have pg0:=Ch.blk_cell Gj.out 0
 have pg1:=Ch.blk_cell Gj.out 1
 have pg2:=Ch.blk_cell Gj.out 2
 have pg3:=Ch.blk_cell Gj.out 3
 have pg4:=Ch.blk_cell Gj.out 4
 have pg5:=Ch.blk_cell Gj.out 5
 have pgl:=Ch.blk_lt Gj.out
 go_wp2_with fail
 refine (Fr.eqDR _ _ cc rr _ _ _ _ _ _ wj SR.out Oj.out.at' (I0.out.below Cj.out)).mono ?_
 rintro e wm ⟨rfl,hbm⟩
 clear pp0 pp1 pp2 pp3 pp4 pp5 ppl
 clear pg0 pg1 pg2 pg3 pg4 pg5 pgl
 have Gm:Hid (wm.heap[G]?=some (.cells #[.int .i64 cc,.int .i64 0,.slice h1 rr.eng.procs.length i1,.slice h2 rr.eng.insts.length i2,.int .i64 rr.eng.now,.slice h3 rr.claims.length i3] 73)):=hid (blk_below Gj.out hbm)
 have Om:=hid (Oj.out.below hbm)
 have Bm:=Bj.trans (hbm.mono Bj.size)
 have Cm:=hid (Cj.out.trans (hbm.mono Cj.out.size))
 have sm:=hbm.size
 clear Gj Oj Cj
 clear hbm
 have pg0:=Ch.blk_cell Gm.out 0
 have pg1:=Ch.blk_cell Gm.out 1
 have pg2:=Ch.blk_cell Gm.out 2
 have pg3:=Ch.blk_cell Gm.out 3
 have pg4:=Ch.blk_cell Gm.out 4
 have pg5:=Ch.blk_cell Gm.out 5
 have pgl:=Ch.blk_lt Gm.out
 go_wp2_with fail
 refine (Fr.markDR w6.heap.size G cc rr _ _ _ wm FR.out Om.out (by have:=LG.out;omega)).mono ?_
 rintro e wn ⟨rfl,hon,hwn⟩
 clear pg0 pg1 pg2 pg3 pg4 pg5 pgl
 have Gn:Hid (wn.heap[G]?=some (.cells #[.int .i64 cc,.int .i64 0,.slice h1 rr.eng.procs.length i1,.slice h2 rr.eng.insts.length i2,.int .i64 rr.eng.now,.slice h3 rr.claims.length i3] 73)):=hid (blk_chg Gm.out hwn (fun h=>by omega))
 have Mn:=hid hon
 have Bn:=below_chg Bm hwn (by have:=B6.size;omega)
 have Cn:=hid (below_chg Cm.out hwn (by omega))
 have sn:=hwn.size
 clear hon hwn Gm Om Cm
 have pg0:=Ch.blk_cell Gn.out 0
 have pg1:=Ch.blk_cell Gn.out 1
 have pg2:=Ch.blk_cell Gn.out 2
 have pg3:=Ch.blk_cell Gn.out 3
 have pg4:=Ch.blk_cell Gn.out 4
 have pg5:=Ch.blk_cell Gn.out 5
 have pgl:=Ch.blk_lt Gn.out
 go_wp2_with fail
 refine (Fr.heldDR cc rr _ _ _ _ wn FR.out Mn.out).mono ?_
 rintro e wo ⟨rfl,hbo⟩
 clear pg0 pg1 pg2 pg3 pg4 pg5 pgl
 have Go:Hid (wo.heap[G]?=some (.cells #[.int .i64 cc,.int .i64 0,.slice h1 rr.eng.procs.length i1,.slice h2 rr.eng.insts.length i2,.int .i64 rr.eng.now,.slice h3 rr.claims.length i3] 73)):=hid (blk_below Gn.out hbo)
 have Mo:=hid (Mn.out.below hbo)
 have Bo:=Bn.trans (hbo.mono Bn.size)
 have Co:=hid (Cn.out.trans (hbo.mono Cn.out.size))
 have so:=hbo.size
 clear Gn Mn Cn
 clear hbo
 have qq1:¬kD rr<0:=by have:=Fr.kD_pos FR.out;omega
 have qq2:(kD rr != kD rr)=false:=by simp
 have Ko:=blk_below KC.out Co.out
 have d0:=Ch.blk_cell Ko 0
 have d1:=Ch.blk_cell Ko 1
 have d2:=Ch.blk_cell Ko 2
 have d3:=Ch.blk_cell Ko 3
 have lk:=Ch.blk_lt Ko
 clear Ko
 go_wp2_with fail
 refine (HC1.out _ Bo).mono ?_
 rintro e wr ⟨p1,p2,p3,rfl,hu,hb6⟩
 obtain ⟨⟨o1,j1,rfl⟩,⟨o2,j2,rfl⟩,o3,j3,rfl⟩:=hu.slices
 have U6:=hid (hu.mono (Nat.zero_le _))
 clear d0 d1 d2 d3 lk
 have Gr:Hid (wr.heap[G]?=some (.cells #[.int .i64 cc,.int .i64 0,.slice h1 rr.eng.procs.length i1,.slice h2 rr.eng.insts.length i2,.int .i64 rr.eng.now,.slice h3 rr.claims.length i3] 73)):=hid (blk_below Go.out hb6)
 have Mr:=hid (Mo.out.below hb6)
 have Br:=Bo.trans (hb6.mono Bo.size)
 have Cr:=hid (Co.out.trans (hb6.mono Co.out.size))
 have sr:=hb6.size
 clear Go Mo Co
 clear hu hb6
 have HIM:=hid (HIK.out _ _ _ wr Br U6.out)
 go_wp2_with fail
 refine HIM.out.mono ?_
 rintro e wt ⟨⟨gp,gi,gc,gM,rfl,hg1,hg2,hg3,hg4⟩,hb7⟩
 have J0:=hid (AOwn.of hg1 hg2 hg3 hg4).at'
 obtain ⟨⟨f1,e1,rfl⟩,⟨f2,e2,rfl⟩,f3,e3,rfl⟩:=J0.out.slices
 clear hg1 hg2 hg3 hg4
 have Gt:Hid (wt.heap[G]?=some (.cells #[.int .i64 cc,.int .i64 0,.slice h1 rr.eng.procs.length i1,.slice h2 rr.eng.insts.length i2,.int .i64 rr.eng.now,.slice h3 rr.claims.length i3] 73)):=hid (blk_below Gr.out hb7)
 have Mt:=hid (Mr.out.below hb7)
 have Bt:=Br.trans (hb7.mono Br.size)
 have Ct:=hid (Cr.out.trans (hb7.mono Cr.out.size))
 have st:=hb7.size
 clear Gr Mr Cr
 obtain ⟨wy,ewy⟩:∃wy,wy=wt.alloc (.cells #[.int .i64 cc,.int .i64 0,.slice f1 rr.eng.procs.length e1,.slice f2 rr.eng.insts.length e2,.int .i64 rr.eng.now,.slice f3 rr.claims.length e3] 73):=⟨_,rfl⟩
 have hby:Below wt.heap.size wt wy:=by rw [ewy];exact new_below wt _
 have PT:=blk_below PP.out Ct.out
 have pp0:=Ch.blk_cell PT 0
 have pp1:=Ch.blk_cell PT 1
 have pp2:=Ch.blk_cell PT 2
 have pp3:=Ch.blk_cell PT 3
 have pp4:=Ch.blk_cell PT 4
 have pp5:=Ch.blk_cell PT 5
 have ppl:=Ch.blk_lt PT
 have J1:=hid (J0.out.below hby)
 have Gy:Hid (wy.heap[G]?=some (.cells #[.int .i64 cc,.int .i64 0,.slice h1 rr.eng.procs.length i1,.slice h2 rr.eng.insts.length i2,.int .i64 rr.eng.now,.slice h3 rr.claims.length i3] 73)):=hid (blk_below Gt.out hby)
 have My:=hid (Mt.out.below hby)
 have By:=Bt.trans (hby.mono Bt.size)
 have Cy:=hid (Ct.out.trans (hby.mono Ct.out.size))
 have sy:=hby.size
 clear Gt Mt Ct
 have EWY:=hid ewy
 clear PT hb7 hby ewy J0 HIM U6
 go_wp2_with fail
 rw [←EWY.out]
 clear EWY
 refine (Fr.eqDR _ _ cc rr _ _ _ _ _ _ wy SR.out J1.out (I0.out.below Cy.out)).mono ?_
 rintro e wz ⟨rfl,hbz⟩
 clear pp0 pp1 pp2 pp3 pp4 pp5 ppl
 have Gz:Hid (wz.heap[G]?=some (.cells #[.int .i64 cc,.int .i64 0,.slice h1 rr.eng.procs.length i1,.slice h2 rr.eng.insts.length i2,.int .i64 rr.eng.now,.slice h3 rr.claims.length i3] 73)):=hid (blk_below Gy.out hbz)
 have Mz:=hid (My.out.below hbz)
 have Bz:=By.trans (hbz.mono By.size)
 have Cz:=hid (Cy.out.trans (hbz.mono Cy.out.size))
 have sz:=hbz.size
 clear Gy My Cy
 clear hbz J1
 have pg0:=Ch.blk_cell Gz.out 0
 have pg1:=Ch.blk_cell Gz.out 1
 have pg2:=Ch.blk_cell Gz.out 2
 have pg3:=Ch.blk_cell Gz.out 3
 have pg4:=Ch.blk_cell Gz.out 4
 have pg5:=Ch.blk_cell Gz.out 5
 have pgl:=Ch.blk_lt Gz.out
 go_wp2_with fail
 refine (Fr.heldDR cc rr _ _ _ _ wz FR.out Mz.out).mono ?_
 rintro e wq ⟨rfl,hbq⟩
 have Bq:=Bz.trans (hbq.mono Bz.size)
 go_wp2
 go_ret
 exact ⟨rfl,Bq⟩
end CtL
end Go.Proofs.YtccklgopcjilcaaGreatDoor
/- What the row of the law says of the program, fact by fact. -/
namespace Go.Proofs.YtccklgopcjilcaaGreatDoor
open Go.ChangeShapes Go.WideShapes Go.ChangeAt Go.RowKit
namespace CtL
noncomputable abbrev jP:Program:=Tryz.pinned.checked.prog
noncomputable abbrev jf:FuncId:=7
noncomputable abbrev jfn:Func:=Tryz.f7
noncomputable abbrev js:ChangeSpec:=Rows.fnExactClaimTaskSpec
noncomputable abbrev jc:OpenClaim:=Rows.fnExactClaimTaskRow
theorem jt0:(jc.wf (OpenSpec.ofChange js))=true:=by kernel_rfl
theorem jt1:(laidOutB jP)=true:=by kernel_rfl
theorem jt2:(mapsRowed jP)=true:=by kernel_rfl
theorem jt3:(jfn.params.all (jP.readableRec ·))=true:=by kernel_rfl
theorem jt4:(namedTie jP jc.named js.vars)=true:=by kernel_rfl
theorem jt5:((jc.stops==[]))=true:=by kernel_rfl
theorem jt6:((jP.stops==[]))=true:=by kernel_rfl
theorem jt7:((jc.knobs==[]))=true:=by kernel_rfl
theorem jt8:((jP.stopKnobs==[]))=true:=by kernel_rfl
theorem jt9:((jc.inPlace==jP.inPlace jf))=true:=by kernel_rfl
theorem jt10:((jc.unfollowed==jP.unfollowed jf))=true:=by kernel_rfl
theorem jt11:((jc.recurses==jP.recurses jf))=true:=by kernel_rfl
theorem jt12:((jc.named==jP.varsNamed jf))=true:=by kernel_rfl
theorem jt13:((jc.maps==(jfn.params.toList++js.plain.varTypes jP).any (jP.mapsRec ·)))=true:=by kernel_rfl
theorem jt14:((jc.ifaces==(jfn.params.toList++js.plain.varTypes jP).any (jP.ifacesRec ·)))=true:=by kernel_rfl
theorem jt15:((jc.mapsOut==jP.mapsAmong jfn.resultTypes.toList))=true:=by kernel_rfl
theorem jt16:((jc.loops==(jfn.params.toList++js.plain.varTypes jP).any (jP.loopsFrom ·)))=true:=by kernel_rfl
theorem jt17:((jc.wideKeys==(jfn.params.toList++js.plain.varTypes jP++jfn.resultTypes.toList).any (jP.wideKeysFrom ·)))=true:=by kernel_rfl
theorem jt18:(js.vars.all (jP.varReadable ·))=true:=by kernel_rfl
theorem jt19:(jfn.resultTypes.all (fun t=>jP.readableRec t&&decide (t<jP.types.size)))=true:=by kernel_rfl
theorem jt20:((jc.ifacesOut==jfn.resultTypes.toList.any (jP.ifacesRec ·)))=true:=by kernel_rfl
theorem jt21:((jc.loopsOut==jfn.resultTypes.toList.any (jP.loopsFrom ·)))=true:=by kernel_rfl
theorem jt22:((jc.plainKeys==jP.plainKeys))=true:=by kernel_rfl
theorem jt23:(jc.shortTexts.isNone)=true:=by kernel_rfl
theorem jt24:(jP.stopsHeard)=true:=by kernel_rfl
theorem jt25:(jP.mayEnter)=true:=by kernel_rfl
theorem jt26:((jc.lifted==jP.liftsFinal))=true:=by kernel_rfl
theorem jt27:((jP.make==some jc.make))=true:=by kernel_rfl
theorem jt28:((jc.kinds==(if jc.domain.isEmpty then [] else jfn.params.toList.map fun t=>match jP.underlying t with | some (.int k)=>some k | _=>none)))=true:=by kernel_rfl
theorem jt29:((jc.pinned==jc.pinnedBy))=true:=by kernel_rfl
theorem jt30:((jc.veiled==(jfn.params.toList++js.plain.varTypes jP++jfn.resultTypes.toList).any (jP.veiledRec ·)))=true:=by kernel_rfl
theorem jt31:(jc.veiledFits jP jfn.params.toList (jfn.params.toList++js.plain.varTypes jP++jfn.resultTypes.toList))=true:=by kernel_rfl
set_option maxRecDepth 100000 in
theorem jall:joinedFacts jP jf jfn js jc=true:=by
 simp only [joinedFacts,Bool.and_eq_true]
 exact ⟨⟨⟨⟨⟨⟨⟨⟨⟨⟨⟨⟨⟨⟨⟨⟨⟨⟨⟨⟨⟨⟨⟨⟨⟨⟨⟨⟨⟨⟨⟨jt0,jt1⟩,jt2⟩,jt3⟩,jt4⟩,jt5⟩,jt6⟩,jt7⟩,jt8⟩,jt9⟩,jt10⟩,jt11⟩,jt12⟩,jt13⟩,jt14⟩,jt15⟩,jt16⟩,jt17⟩,jt18⟩,jt19⟩,jt20⟩,jt21⟩,jt22⟩,jt23⟩,jt24⟩,jt25⟩,jt26⟩,jt27⟩,jt28⟩,jt29⟩,jt30⟩,jt31⟩
end CtL
end Go.Proofs.YtccklgopcjilcaaGreatDoor
