/- Laid together: KfO, NdQ, EgI, DmI. -/
import Derived.Test.YtccklgopcjilcaaGreatDoorJCT26
import Derived.Test.YtccklgopcjilcaaGreatDoorJCT23
import Derived.Test.YtccklgopcjilcaaGreatDoorJCT1
import Derived.Laws.StructEq
import Derived.Test.YtccklgopcjilcaaGreatDoorJCT24
import Derived.Test.YtccklgopcjilcaaGreatDoorJCT22
import Derived.Deep.RegionHeld3
import Derived.BigQuiet
/- ChartFault and OpenSteps of the program. Condition: the table of rules lies as its initialiser lays it. -/
namespace Go.Proofs.YtccklgopcjilcaaGreatDoor
open Go.RowKit Go.Deep
set_option linter.unusedVariables false
set_option linter.unusedSimpArgs false
namespace Kc
open Ex (inR evalCode evalVal vFault hid)
open St (StepD)
open Ch (RunD)
open Pf
open Pt (kidVals)
set_option maxRecDepth 100000 in
set_option maxHeartbeats 4000000 in
theorem implChartFault (ss:List StepD) (r:RunD) (v v1 v2 v3:Value) (w:World) (hsm:St.Small 1048576 ss) (hs:Ch.Small 1048576 r) (ha:St.At w 0 v ss) (hc:Ch.At w 0 v1 v2 v3 r) (hr:Rul w):
    Calls Tryz.prog 183 #[v,.agg #[.int .i64 r.status,.int .i64 r.now,v1,v2,v3]] w fun e w'=>e=.returned (.int .i64 (chartC ss r))∧Below w.heap.size w w':=by
 obtain ⟨a,cap,rfl⟩:=ha.slice
 obtain ⟨a1,c1,rfl⟩:=hc.vars.slice
 obtain ⟨a2,c2,rfl⟩:=hc.marks.slice
 obtain ⟨a3,c3,rfl⟩:=hc.dues.slice
 obtain ⟨w0,e0⟩:∃w0,w0=w.alloc (.cells #[.int .i64 r.status,.int .i64 r.now,.slice a1 r.vars.length c1,.slice a2 r.marks.length c2,.slice a3 r.dues.length c3] 112):=⟨_,rfl⟩
 have hb0:Below w.heap.size w w0:=by rw [e0];exact (Below.refl _ w).alloc (Nat.le_refl _) _
 have HF:=hid (courseOf ss r _ _ _ _ w0 hsm hs (ha.below hb0) (hc.below hb0) (hr.below hb0 hr.lt))
 have HB0:=hid hb0
 clear ha hc hsm hr hs hb0
 go_enter Tryz.func183,Tryz.ntmps183
 go_wp2_with fail
 rw [←e0]
 refine HF.out.mono ?_
 rintro e w1 ⟨h1,hb1⟩
 have hB1:=HB0.out.trans (hb1.mono HB0.out.size)
 rcases h1 with ⟨hne,rfl⟩ | ⟨hz,wg,R,u,rfl,hk,hle⟩
 ·clear hne
  go_wp2
  go_ret
  exact ⟨rfl,hB1⟩
 ·have HZ:=hid hz
  clear hz hk
  go_wp2
  go_ret
  exact ⟨by rw [HZ.out];rfl,hB1⟩
end Kc
end Go.Proofs.YtccklgopcjilcaaGreatDoor
/- Two nodes held against each other. -/
namespace Go.Proofs.YtccklgopcjilcaaGreatDoor
open Go.RowKit
set_option linter.unusedVariables false
namespace Nd
set_option maxRecDepth 100000 in
theorem below_drewN {B:Nat} {a w:World} (h:Below B a w) (n:Nat):Below B a (w.drewN n):=⟨h.os,h.tape,h.output,h.size,h.block⟩
end Nd
end Go.Proofs.YtccklgopcjilcaaGreatDoor
/- EngineFault of the program. Condition: the table of rules lies as its initialiser lays it. -/
namespace Go.Proofs.YtccklgopcjilcaaGreatDoor
open Go.RowKit Go.Deep
set_option linter.unusedVariables false
namespace Eg
open St (StepD)
open Ei (InstD)
open En (EngD)
open Kc (chartC)
open Pf (pFault Rul implProcFault)
open Ex (inR hid)
set_option maxRecDepth 100000 in
set_option maxHeartbeats 2000000 in
theorem implHasProc (e:EngD) (vp vi:Value) (p:Int) (B:Nat) (w:World) (hs:e.procs.length≤1048576) (ha:En.At w B vp vi e):
    Calls Tryz.prog 182 #[.agg #[vp,vi,.int .i64 e.now],.int .i64 p] w fun z w'=>z=.returned (.bool (hasP e p))∧Below w.heap.size w w':=by
 obtain ⟨a1,k1,rfl⟩:=ha.procs.slice
 obtain ⟨a2,k2,rfl⟩:=ha.insts.slice
 have HB:Hid (Below w.heap.size w (w.alloc (.cells #[.slice a1 e.procs.length k1,.slice a2 e.insts.length k2,.int .i64 e.now] 27))):=hid ((Below.refl _ w).alloc (Nat.le_refl _) _)
 clear ha
 by_cases q:0≤p
 ·have e1:decide (0≤p)=true:=by simp [q]
  have HE:=hid (show hasP e p=decide (p<(e.procs.length:Int)) by unfold hasP inR;rw [e1,Bool.true_and];exact decide_eq_decide.2 (by omega))
  generalize hasP e p=z at *
  go_enter Tryz.func182,Tryz.ntmps182
  go_wp2
  go_ret
  exact ⟨by rw [HE.out];rfl,HB.out⟩
 ·have e1:decide (0≤p)=false:=by simp [q]
  have HE:=hid (show hasP e p=false by unfold hasP inR;rw [e1,Bool.false_and])
  generalize hasP e p=z at *
  go_enter Tryz.func182,Tryz.ntmps182
  go_wp2
  go_ret
  exact ⟨by rw [HE.out];rfl,HB.out⟩
set_option maxRecDepth 100000 in
set_option maxHeartbeats 4000000 in
theorem implStepsOf (e:EngD) (vp vi:Value) (i:Nat) (B:Nat) (w:World) (hs:En.Small 1048576 e) (ha:En.At w B vp vi e) (hi:i<e.insts.length) (hp:hasP e e.insts[i].proc=true):
    Calls Tryz.prog 73 #[.agg #[vp,vi,.int .i64 e.now],.int .i64 (i:Int)] w fun z w'=>(∃v,z=.returned v∧St.At w' B v (stepsD e e.insts[i].proc))∧Below w.heap.size w w':=by
 obtain ⟨hp0,hp1,hp2⟩:=hasP_in hp
 have hl1:=hs.procs.1
 have hl2:=hs.insts.1
 rw [stepsD_eq hp1]
 obtain ⟨a1,k1,rfl⟩:=ha.procs.slice
 obtain ⟨a2,k2,rfl⟩:=ha.insts.slice
 obtain ⟨g,o,x1,x2,x3,ea,hg,c0,_,_,_,_,_,_⟩:=ha.insts.at hi
 cases ea
 obtain ⟨g2,o2,y1,ea,hg2,d0,hst⟩:=ha.procs.at hp1
 cases ea
 have t1:(i:Int)<(e.insts.length:Int):=by omega
 obtain ⟨b1,l1,rfl⟩:=hst.slice
 have HST:=hid hst
 generalize hpp:e.insts[i].proc=p at *
 clear ha hst hp hs hpp
 have hB:Below w.heap.size w (w.alloc (.cells #[.slice (some ⟨g2,o2,none⟩) e.procs.length k1,.slice (some ⟨g,o,none⟩) e.insts.length k2,.int .i64 e.now] 27)):=(Below.refl _ w).alloc (Nat.le_refl _) _
 go_enter Tryz.func73,Tryz.ntmps73
 go_wp2
 go_quiet (fail)
 go_wp2
 go_ret
 exact ⟨⟨_,rfl,HST.out.below (Nd.below_drewN hB nq)⟩,Nd.below_drewN hB nq⟩
set_option maxRecDepth 100000 in
set_option maxHeartbeats 8000000 in
theorem implInstFault (e:EngD) (vp vi:Value) (i:Nat) (w:World) (hs:En.Small 1048576 e) (ha:En.At w 0 vp vi e) (hr:Rul w) (hi:i<e.insts.length):
    Calls Tryz.prog 146 #[.agg #[vp,vi,.int .i64 e.now],.int .i64 (i:Int)] w fun z w'=>z=.returned (.int .i64 (instC e e.insts[i]))∧Below w.heap.size w w':=by
 obtain ⟨a1,k1,rfl⟩:=ha.procs.slice
 obtain ⟨a2,k2,rfl⟩:=ha.insts.slice
 have t1:(i:Int)<(e.insts.length:Int):=by omega
 have hl1:=hs.procs.1
 obtain ⟨g,o,x1,x2,x3,rfl,hg,p0,p1,p2,p3,p4,p5,hc⟩:=ha.insts.at hi
 obtain ⟨b1,l1,rfl⟩:=hc.vars.slice
 obtain ⟨b2,l2,rfl⟩:=hc.marks.slice
 obtain ⟨b3,l3,rfl⟩:=hc.dues.slice
 obtain ⟨w1,e1⟩:∃w1,w1=(w.alloc (.cells #[.slice a1 e.procs.length k1,.slice (some ⟨g,o,none⟩) e.insts.length k2,.int .i64 e.now] 27)).alloc (.cells #[.int .i64 e.insts[i].proc,.int .i64 e.insts[i].chart.status,.int .i64 e.insts[i].chart.now,.slice b1 e.insts[i].chart.vars.length l1,.slice b2 e.insts[i].chart.marks.length l2,.slice b3 e.insts[i].chart.dues.length l3] 114):=⟨_,rfl⟩
 have hb1:Below w.heap.size w w1:=by rw [e1];exact ((Below.refl _ w).alloc (Nat.le_refl _) _).alloc (by simp) _
 have k0:w1.heap[w.heap.size]?=some (.cells #[.slice a1 e.procs.length k1,.slice (some ⟨g,o,none⟩) e.insts.length k2,.int .i64 e.now] 27):=by rw [e1,Below.heap_alloc _ _ _ (by simp),Ch.new_blk]
 have k9:w1.heap[w.heap.size+1]?=some (.cells #[.int .i64 e.insts[i].proc,.int .i64 e.insts[i].chart.status,.int .i64 e.insts[i].chart.now,.slice b1 e.insts[i].chart.vars.length l1,.slice b2 e.insts[i].chart.marks.length l2,.slice b3 e.insts[i].chart.dues.length l3] 114):=by rw [e1];exact Ch.new_at (by simp) _
 have HH:=hid (implHasProc e _ _ e.insts[i].proc 0 w1 (by omega) (ha.below hb1))
 have HA:=hid (ha.below hb1)
 have HCA:=hid (hc.below hb1)
 have HR:=hid (hr.below hb1 hr.lt)
 have HB1:=hid hb1
 have HS0:=hid hs
 clear ha hr hb1 hc hs
 go_enter Tryz.func146,Tryz.ntmps146
 go_wp2_with fail
 rw [←e1]
 clear e1 p0 p1 p2 p3 p4 p5
 refine HH.out.mono ?_
 rintro z w2 ⟨rfl,hb2⟩
 have HB2:=hid (HB1.out.trans (hb2.mono HB1.out.size))
 have HK2:Hid (w2.heap[w.heap.size]?=some (.cells #[.slice a1 e.procs.length k1,.slice (some ⟨g,o,none⟩) e.insts.length k2,.int .i64 e.now] 27)∧w2.heap[w.heap.size+1]?=some (.cells #[.int .i64 e.insts[i].proc,.int .i64 e.insts[i].chart.status,.int .i64 e.insts[i].chart.now,.slice b1 e.insts[i].chart.vars.length l1,.slice b2 e.insts[i].chart.marks.length l2,.slice b3 e.insts[i].chart.dues.length l3] 114)):=hid ⟨(hb2.block _ (Ch.blk_lt k0)).trans k0,(hb2.block _ (Ch.blk_lt k9)).trans k9⟩
 have HA2:=hid (HA.out.below hb2)
 have HC2:=hid (HCA.out.below hb2)
 have HR2:=hid (HR.out.below hb2 HR.out.lt)
 clear hb2 k0 k9 HA HCA HR HH HB1
 cases hx:hasP e e.insts[i].proc
 ·have HE:=hid (i_range hx)
  go_wp2
  go_ret
  exact ⟨by rw [HE.out];rfl,HB2.out⟩
 have HX:=hid hx
 obtain ⟨hp0,hp1,hp2⟩:=hasP_in hx
 have hsm:St.Small 1048576 (stepsD e e.insts[i].proc):=by rw [stepsD_eq hp1];exact HS0.out.procs.at hp1
 have HS:=hid (fun w3 (hb:Below w2.heap.size w2 w3)=>implStepsOf e _ _ i 0 w3 HS0.out (HA2.out.below hb) hi hx)
 have HC:=hid (fun w3 (hb:Below w2.heap.size w2 w3) v (hv:St.At w3 0 v (stepsD e e.insts[i].proc))=>Kc.implChartFault _ e.insts[i].chart v _ _ _ w3 hsm (HS0.out.insts.at hi) hv (HC2.out.below hb) (HR2.out.below hb HR2.out.lt))
 have HI:Hid (∀c,c=chartC (stepsD e e.insts[i].proc) e.insts[i].chart→instC e e.insts[i]=if c≠0 then c else if e.insts[i].chart.now=e.now then 0 else 9):=hid (fun c hc=>by rw [hc];unfold instC;rw [if_pos hx])
 clear hx hp0 hp1 hp2 hsm
 generalize hcc:chartC (stepsD e e.insts[i].proc) e.insts[i].chart=cc at *
 have HI2:=hid (HI.out cc rfl)
 clear HI hcc
 have HKd:Hid (w2.drew.heap[w.heap.size]?=some (.cells #[.slice a1 e.procs.length k1,.slice (some ⟨g,o,none⟩) e.insts.length k2,.int .i64 e.now] 27)∧w2.drew.heap[w.heap.size+1]?=some (.cells #[.int .i64 e.insts[i].proc,.int .i64 e.insts[i].chart.status,.int .i64 e.insts[i].chart.now,.slice b1 e.insts[i].chart.vars.length l1,.slice b2 e.insts[i].chart.marks.length l2,.slice b3 e.insts[i].chart.dues.length l3] 114)):=hid HK2.out
 go_wp2
 refine wp_region_held_drew (S:=fun wx=>wx.heap[w.heap.size]?=some (.cells #[.slice a1 e.procs.length k1,.slice (some ⟨g,o,none⟩) e.insts.length k2,.int .i64 e.now] 27)∧wx.heap[w.heap.size+1]?=some (.cells #[.int .i64 e.insts[i].proc,.int .i64 e.insts[i].chart.status,.int .i64 e.insts[i].chart.now,.slice b1 e.insts[i].chart.vars.length l1,.slice b2 e.insts[i].chart.marks.length l2,.slice b3 e.insts[i].chart.dues.length l3] 114)) (by kernel_rfl) HKd.out (fun hHeld=>?_)
 refine wpAnyH_take (i:=0) (oi:={ dst:=some 17,op:=Go.Op.load 27 (Go.Operand.tmp 2),type:=27,pos := "l11_engine.go:54",after:=#[],guard:=none }) (v:=.agg #[.slice a1 e.procs.length k1,.slice (some ⟨g,o,none⟩) e.insts.length k2,.int .i64 e.now]) rfl (by kernel_rfl) (by kernel_rfl) (by kernel_rfl) (fun _ _ _ h=>h) (Or.inl ⟨by rfl,by intro w hSw;(try dsimp only at hSw);obtain ⟨h1,h2⟩:=hSw;have m0:=Ch.blk_cell h1 0;have m1:=Ch.blk_cell h1 1;have m2:=Ch.blk_cell h1 2;clear h1 h2;go_simp⟩) (by assumption) ?_
 simp only [Act.put,List.setIfInBounds_toArray,List.set_cons_zero,List.set_cons_succ]
 refine wpAnyH_take (i:=1) (oi:={ dst:=some 18,op:=Go.Op.move (Go.Operand.tmp 1),type:=2,pos := "l11_engine.go:54",after:=#[],guard:=none }) (v:=.int .i64 (i:Int)) rfl (by kernel_rfl) (by kernel_rfl) (by kernel_rfl) (fun _ _ _ h=>h) (Or.inl ⟨by rfl,by intro w hSw;(try dsimp only at hSw);go_simp⟩) (by assumption) ?_
 simp only [Act.put,List.setIfInBounds_toArray,List.set_cons_zero,List.set_cons_succ]
 refine wpAnyH_take (i:=3) (oi:={ dst:=some 20,op:=Go.Op.fieldAddr 114 (Go.Operand.tmp 5) 1,type:=0,pos := "l11_engine.go:54",after:=#[],guard:=none }) (v:=.pointer (some ⟨w.heap.size+1,1,none⟩)) rfl (by kernel_rfl) (by kernel_rfl) (by kernel_rfl) (fun _ _ _ h=>h) (Or.inl ⟨by rfl,by intro w hSw;(try dsimp only at hSw);go_simp⟩) (by assumption) ?_
 simp only [Act.put,List.setIfInBounds_toArray,List.set_cons_zero,List.set_cons_succ]
 refine wpAnyH_take (i:=4) (oi:={ dst:=some 21,op:=Go.Op.load 112 (Go.Operand.tmp 20),type:=112,pos := "l11_engine.go:54",after:=#[{ on:=3,ground:=Go.Ground.data }],guard:=none }) (v:=.agg #[.int .i64 e.insts[i].chart.status,.int .i64 e.insts[i].chart.now,.slice b1 e.insts[i].chart.vars.length l1,.slice b2 e.insts[i].chart.marks.length l2,.slice b3 e.insts[i].chart.dues.length l3]) rfl (by kernel_rfl) (by kernel_rfl) (by kernel_rfl) (fun _ _ _ h=>h) (Or.inl ⟨by rfl,by intro w hSw;(try dsimp only at hSw);obtain ⟨h1,h2⟩:=hSw;have m0:=Ch.blk_cell h2 0;have m1:=Ch.blk_cell h2 1;have m2:=Ch.blk_cell h2 2;have m3:=Ch.blk_cell h2 3;have m4:=Ch.blk_cell h2 4;have m5:=Ch.blk_cell h2 5;clear h1 h2;go_simp⟩) (by assumption) ?_
 simp only [Act.put,List.setIfInBounds_toArray,List.set_cons_zero,List.set_cons_succ]
 refine wpAnyH_ready (rs:=[2]) (by kernel_rfl) (by simp) ?_
 refine AllReadyH.cons (o:={ dst:=some 19,op:=Go.Op.call { callee:=Go.Callee.value (Go.Operand.func 73),args:=#[Go.Operand.tmp 17,Go.Operand.tmp 18],argTypes:=#[27,2] },type:=87,pos := "l11_engine.go:54",after:=#[{ on:=0,ground:=Go.Ground.data },{ on:=1,ground:=Go.Ground.data }],guard:=none }) rfl (fun K hK=>?_) AllReadyH.nil
 go_simp
 go_at_call 73
 refine (HS.out _ (Below.refl w2.heap.size w2).drew).mono ?_
 rintro z w3 ⟨⟨v,rfl,hv⟩,hb3⟩
 obtain ⟨c3,d3,rfl⟩:=hv.slice
 have HV:=hid hv
 have hb3:=((Below.refl w2.heap.size w2).drew).trans (hb3.mono (Below.refl w2.heap.size w2).drew.size)
 have HK3:Hid (w3.heap[w.heap.size]?=some (.cells #[.slice a1 e.procs.length k1,.slice (some ⟨g,o,none⟩) e.insts.length k2,.int .i64 e.now] 27)∧w3.heap[w.heap.size+1]?=some (.cells #[.int .i64 e.insts[i].proc,.int .i64 e.insts[i].chart.status,.int .i64 e.insts[i].chart.now,.slice b1 e.insts[i].chart.vars.length l1,.slice b2 e.insts[i].chart.marks.length l2,.slice b3 e.insts[i].chart.dues.length l3] 114)):=hid ⟨(hb3.block _ (Ch.blk_lt HK2.out.1)).trans HK2.out.1,(hb3.block _ (Ch.blk_lt HK2.out.2)).trans HK2.out.2⟩
 have HB3:=hid hb3
 clear hv hb3
 go_wp2_with fail
 refine hK.out _ _ HK3.out (fun hHeld=>?_)
 clear hK K
 try simp only [Act.put,List.setIfInBounds_toArray,List.set_cons_zero,List.set_cons_succ]
 refine wpAnyH_ready (rs:=[5]) (by kernel_rfl) (by simp) ?_
 refine AllReadyH.cons (o:={ dst:=some 22,op:=Go.Op.call { callee:=Go.Callee.value (Go.Operand.func 183),args:=#[Go.Operand.tmp 19,Go.Operand.tmp 21],argTypes:=#[87,112] },type:=2,pos := "l11_engine.go:54",after:=#[{ on:=2,ground:=Go.Ground.data },{ on:=4,ground:=Go.Ground.data },{ on:=2,ground:=Go.Ground.chain }],guard:=none }) rfl (fun K hK=>?_) AllReadyH.nil
 go_simp
 go_at_call 183
 refine (HC.out w3 HB3.out _ HV.out).mono ?_
 rintro z w4 ⟨rfl,hb4⟩
 have HK4:Hid (w4.heap[w.heap.size]?=some (.cells #[.slice a1 e.procs.length k1,.slice (some ⟨g,o,none⟩) e.insts.length k2,.int .i64 e.now] 27)∧w4.heap[w.heap.size+1]?=some (.cells #[.int .i64 e.insts[i].proc,.int .i64 e.insts[i].chart.status,.int .i64 e.insts[i].chart.now,.slice b1 e.insts[i].chart.vars.length l1,.slice b2 e.insts[i].chart.marks.length l2,.slice b3 e.insts[i].chart.dues.length l3] 114)):=hid ⟨(hb4.block _ (Ch.blk_lt HK3.out.1)).trans HK3.out.1,(hb4.block _ (Ch.blk_lt HK3.out.2)).trans HK3.out.2⟩
 have HB4:=hid (HB3.out.trans (hb4.mono HB3.out.size))
 clear hb4
 go_wp2_with fail
 refine hK.out _ _ HK4.out (fun hHeld=>?_)
 clear hK K
 try simp only [Act.put,List.setIfInBounds_toArray,List.set_cons_zero,List.set_cons_succ]
 refine wpAnyH_take (i:=6) (oi:={ dst:=some 6,op:=Go.Op.assign (Go.Operand.tmp 22),type:=2,pos := "l11_engine.go:54",after:=#[{ on:=5,ground:=Go.Ground.data },{ on:=5,ground:=Go.Ground.chain },{ on:=0,ground:=Go.Ground.phase },{ on:=1,ground:=Go.Ground.phase },{ on:=2,ground:=Go.Ground.phase },{ on:=3,ground:=Go.Ground.phase },{ on:=4,ground:=Go.Ground.phase },{ on:=5,ground:=Go.Ground.phase }],guard:=none }) (v:=.int .i64 cc) rfl (by kernel_rfl) (by kernel_rfl) (by kernel_rfl) (fun _ _ _ h=>h) (Or.inl ⟨by rfl,by intro w hSw;(try dsimp only at hSw);go_simp⟩) (by assumption) ?_
 simp only [Act.put,List.setIfInBounds_toArray,List.set_cons_zero,List.set_cons_succ]
 refine wpAnyH_done (by kernel_rfl) ?_ _
 have k4:=HK4.out
 have m2:=Ch.blk_cell k4.2 2
 have m3:=Ch.blk_cell k4.1 2
 have lk1:=Ch.blk_lt k4.1
 have lk2:=Ch.blk_lt k4.2
 replace m2:w4.cell? ⟨w.heap.size+1,2,none⟩=some (.int .i64 e.insts[i].chart.now):=m2
 replace m3:w4.cell? ⟨w.heap.size,2,none⟩=some (.int .i64 e.now):=m3
 have HBZ:=hid (HB2.out.trans (HB4.out.mono HB2.out.size))
 clear hHeld HK2 HK3 HK4 HKd HS HC HV HB3 HB4 k4 HA2 HC2 HR2 HB2 HX
 by_cases hz:cc=0
 ·subst hz
  rw [if_neg (by simp)] at HI2
  have b0:((0:Int) != 0)=false:=rfl
  cases hn:(e.insts[i].chart.now==e.now)
  ·have HE:Hid (instC e e.insts[i]=9):=hid (by rw [HI2.out,if_neg (by simpa using hn)])
   have b1:(e.insts[i].chart.now != e.now)=true:=by rw [bne,hn];rfl
   clear HI2 hn
   go_wp2
   go_ret
   exact ⟨by rw [HE.out];rfl,HBZ.out⟩
  ·have HE:Hid (instC e e.insts[i]=0):=hid (by rw [HI2.out,if_pos (by simpa using hn)])
   have b1:(e.insts[i].chart.now != e.now)=false:=by rw [bne,hn];rfl
   clear HI2 hn
   go_wp2
   go_ret
   exact ⟨by rw [HE.out];rfl,HBZ.out⟩
 ·have b0:(cc != 0)=true:=bne_iff_ne.2 hz
  have HE:Hid (instC e e.insts[i]=cc):=hid (by rw [HI2.out,if_pos hz])
  clear HI2 hz
  go_wp2
  go_ret
  exact ⟨by rw [HE.out];rfl,HBZ.out⟩
end Eg
end Go.Proofs.YtccklgopcjilcaaGreatDoor
/- The program's questions of a desk: is there an instance, is a number a user, where does a claim stand, is a task open. -/
namespace Go.Proofs.YtccklgopcjilcaaGreatDoor
open Go.RowKit Go.Deep
set_option linter.unusedVariables false
namespace Dk
open St (StepD)
open Ei (InstD)
open En (EngD)
open Cl (ClD)
open Eg (engC stepsD hasP hasP_in stepsD_eq implStepsOf)
open Kc (fA fA_eq)
open Pf (PJ PJ_eq)
open Ex (inR hid)
open Ch (blk_cell blk_lt new_blk new_at)
set_option maxRecDepth 100000 in
set_option maxHeartbeats 2000000 in
theorem implHasInst (e:EngD) (vp vi:Value) (p:Int) (B:Nat) (w:World) (hs:e.insts.length≤1048576) (ha:En.At w B vp vi e):
    Calls Tryz.prog 121 #[.agg #[vp,vi,.int .i64 e.now],.int .i64 p] w fun z w'=>z=.returned (.bool (hasI e p))∧Below w.heap.size w w':=by
 obtain ⟨a1,k1,rfl⟩:=ha.procs.slice
 obtain ⟨a2,k2,rfl⟩:=ha.insts.slice
 have HB:Hid (Below w.heap.size w (w.alloc (.cells #[.slice a1 e.procs.length k1,.slice a2 e.insts.length k2,.int .i64 e.now] 27))):=hid ((Below.refl _ w).alloc (Nat.le_refl _) _)
 clear ha
 by_cases q:0≤p
 ·have e1:decide (0≤p)=true:=by simp [q]
  have HE:=hid (show hasI e p=decide (p<(e.insts.length:Int)) by unfold hasI inR;rw [e1,Bool.true_and];exact decide_eq_decide.2 (by omega))
  generalize hasI e p=z at *
  go_enter Tryz.func121,Tryz.ntmps121
  go_wp2
  go_ret
  exact ⟨by rw [HE.out];rfl,HB.out⟩
 ·have e1:decide (0≤p)=false:=by simp [q]
  have HE:=hid (show hasI e p=false by unfold hasI inR;rw [e1,Bool.false_and])
  generalize hasI e p=z at *
  go_enter Tryz.func121,Tryz.ntmps121
  go_wp2
  go_ret
  exact ⟨by rw [HE.out];rfl,HB.out⟩
set_option maxRecDepth 100000 in
set_option maxHeartbeats 2000000 in
theorem implIsUser (u:Int) (w:World):Calls Tryz.prog 132 #[.int .i64 u] w fun z w'=>z=.returned (.bool (isU u))∧w'=w:=by
 by_cases q:0<u
 ·have HE:=hid (show isU u=decide (u≤9) by unfold isU inR;rw [show decide (1≤u)=true by simp;omega,Bool.true_and])
  generalize isU u=z at *
  go_enter Tryz.func132,Tryz.ntmps132
  go_wp2
  go_ret
  exact ⟨by rw [HE.out];rfl,rfl⟩
 ·have HE:=hid (show isU u=false by unfold isU inR;rw [show decide (1≤u)=false by simp;omega,Bool.false_and])
  generalize isU u=z at *
  go_enter Tryz.func132,Tryz.ntmps132
  go_wp2
  go_ret
  exact ⟨by rw [HE.out];rfl,rfl⟩
set_option maxRecDepth 100000 in
set_option maxHeartbeats 400000 in
theorem implPlace (x y z:Int) (w:World):Calls Tryz.prog 151 #[.agg #[.int .i64 x,.int .i64 y,.int .i64 z]] w fun r w'=>r=.returned (.agg #[.int .i64 x,.int .i64 y])∧Below w.heap.size w w':=by
 go_enter Tryz.func151,Tryz.ntmps151
 go_wp2
 exact bodyPost_ret (v:=.agg #[.int .i64 x,.int .i64 y]) (by simp [results,Tryz.results151,go_sem]) rfl ⟨rfl,((Below.refl _ w).alloc (Nat.le_refl _) _).alloc (by simp) _⟩
set_option maxRecDepth 100000 in
set_option maxHeartbeats 4000000 in
theorem implIsOpen (e:EngD) (vp vi:Value) (n:Nat) (s:Int) (B:Nat) (w:World) (hs:En.Small 1048576 e) (ha:En.At w B vp vi e) (hn:n<e.insts.length) (hk:engC e=0):
    Calls Tryz.prog 133 #[.agg #[.int .i64 (n:Int),.int .i64 s],.agg #[vp,vi,.int .i64 e.now]] w fun z w'=>z=.returned (.bool (openT e n s))∧Below w.heap.size w w':=by
 obtain ⟨hp,hm,_⟩:=inst_ok hk hn
 have hOT:openT e n s=openP (stepsD e e.insts[n].proc) (fA e.insts[n].chart) s:=by unfold openT;rw [Int.toNat_natCast,instD_eq hn]
 have hsl:(stepsD e e.insts[n].proc).length≤1048576:=by
  obtain ⟨_,hp1,_⟩:=hasP_in hp
  rw [stepsD_eq hp1]
  have:=(hs.procs.at hp1).1
  omega
 obtain ⟨zz,hzz⟩:∃zz,openT e n s=zz:=⟨_,rfl⟩
 rw [hzz] at hOT ⊢
 clear hzz
 obtain ⟨a1,k1,rfl⟩:=ha.procs.slice
 obtain ⟨a2,k2,rfl⟩:=ha.insts.slice
 have t0:(n:Int)<(e.insts.length:Int):=by omega
 have hl2:=hs.insts.1
 obtain ⟨w0,e0⟩:∃w0,w0=(w.alloc (.cells #[.int .i64 (n:Int),.int .i64 s] 147)).alloc (.cells #[.slice a1 e.procs.length k1,.slice a2 e.insts.length k2,.int .i64 e.now] 27):=⟨_,rfl⟩
 have hb0:Below w.heap.size w w0:=by rw [e0];exact ((Below.refl _ w).alloc (Nat.le_refl _) _).alloc (by simp) _
 have hk0:w0.heap[w.heap.size]?=some (.cells #[.int .i64 (n:Int),.int .i64 s] 147):=by rw [e0,Below.heap_alloc _ _ _ (by simp),new_blk]
 have hk1:w0.heap[w.heap.size+1]?=some (.cells #[.slice a1 e.procs.length k1,.slice a2 e.insts.length k2,.int .i64 e.now] 27):=by rw [e0];exact new_at (by simp) _
 have HS:=hid (implStepsOf e _ _ n B w0 hs (ha.below hb0) hn hp)
 have HA:=hid (ha.below hb0)
 have HB0:=hid hb0
 clear ha hb0 hs hp hk
 go_enter Tryz.func133,Tryz.ntmps133
 go_wp2_with fail
 rw [←e0]
 clear e0
 refine HS.out.mono ?_
 rintro z w1 ⟨⟨v,rfl,hv⟩,hb1⟩
 have HB1:=hid (HB0.out.trans (hb1.mono HB0.out.size))
 have j0:=(hb1.block _ (blk_lt hk0)).trans hk0
 have j1:=(hb1.block _ (blk_lt hk1)).trans hk1
 have m0:=blk_cell j0 0
 have m1:=blk_cell j0 1
 have m2:=blk_cell j1 1
 replace m0:w1.cell? ⟨w.heap.size,0,none⟩=some (.int .i64 (n:Int)):=m0
 replace m1:w1.cell? ⟨w.heap.size,1,none⟩=some (.int .i64 s):=m1
 replace m2:w1.cell? ⟨w.heap.size+1,1,none⟩=some (.slice a2 e.insts.length k2):=m2
 have ml0:=blk_lt j0
 have ml1:=blk_lt j1
 have ha1:=HA.out.below hb1
 obtain ⟨g,o,x1,x2,x3,ea,hg,p0,p1,p2,p3,p4,p5,hc⟩:=ha1.insts.at hn
 subst ea
 obtain ⟨b2,l2,rfl⟩:=hc.marks.slice
 have hcm:=hc.marks
 replace p4:w1.cell? ⟨g,o+n*6+1+3,none⟩=some (.slice b2 e.insts[n].chart.marks.length l2):=p4
 clear p0 p1 p2 p3 p5 hb1 HA hk0 hk1 ha1 HS HB0 j0 j1 hc
 generalize stepsD e e.insts[n].proc=ss at *
 generalize e.insts[n].chart=ch at *
 obtain ⟨c3,d3,rfl⟩:=hv.slice
 cases hx:inR s 0 ((ss.length:Int) - 1)
 ·have HE:=hid (hOT.trans (open_out hx))
  clear hOT
  by_cases q:0≤s
  ·have d1:decide (0≤s)=true:=by simp [q]
   have d2:decide (s<(ss.length:Int))=false:=by unfold inR at hx;simp at hx ⊢;omega
   clear hx
   go_wp2
   go_quiet (fail)
   go_wp2
   go_ret
   exact ⟨by rw [HE.out];rfl,Nd.below_drewN HB1.out nq⟩
  ·have d1:decide (0≤s)=false:=by simp [q]
   clear hx
   go_wp2
   go_quiet (fail)
   go_wp2
   go_ret
   exact ⟨by rw [HE.out];rfl,Nd.below_drewN HB1.out nq⟩
 have hx2:0≤s∧s<(ss.length:Int):=by unfold inR at hx;simp at hx;omega
 obtain ⟨k,rfl⟩:∃k:Nat,s=(k:Int):=⟨s.toNat,by omega⟩
 have hkl:k<ss.length:=by omega
 obtain ⟨g2,o2,vc,ve,ea,hg2,r0,_,_,_,_,_,_,_⟩:=hv.at hkl
 subst ea
 obtain ⟨g3,o3,ea,hg3,r1⟩:=hcm.at (show k<ch.marks.length by omega)
 subst ea
 have HE:=hid (hOT.trans (open_in hx))
 rw [Int.toNat_natCast,PJ_eq hkl,fA_eq (show k<ch.marks.length by omega)] at HE
 clear hOT
 have d1:decide ((0:Int)≤(k:Int))=true:=by simp
 have d2:decide ((k:Int)<(ss.length:Int))=true:=by simp;omega
 have d3':decide (k<ss.length)=true:=by simp;omega
 have t1:(k:Int)<(ss.length:Int):=by omega
 have t2:(k:Int)<(ch.marks.length:Int):=by omega
 have hml:ch.marks.length≤1048576:=by omega
 generalize ss[k].kind=kd at *
 generalize ch.marks[k]=ac at *
 clear hx hx2 hv hcm hm
 cases hd:(kd==2)
 ·rw [hd,Bool.false_and] at HE
  go_wp2
  go_quiet (fail)
  go_wp2
  go_ret
  exact ⟨by rw [HE.out];rfl,Nd.below_drewN HB1.out nq⟩
 ·rw [hd,Bool.true_and] at HE
  cases he:(ac==1)
  ·rw [he] at HE
   go_wp2
   go_quiet (fail)
   go_wp2
   go_ret
   exact ⟨by rw [HE.out];rfl,Nd.below_drewN HB1.out nq⟩
  ·rw [he] at HE
   go_wp2
   go_quiet (fail)
   go_wp2
   go_ret
   exact ⟨by rw [HE.out];rfl,Nd.below_drewN HB1.out nq⟩
end Dk
end Go.Proofs.YtccklgopcjilcaaGreatDoor
