/- Laid together: DcC, EgJ. -/
import Derived.Test.YtccklgopcjilcaaGreatDoorJCT28
import Derived.Deep.RegionLaw
import Derived.Deep.RegionHeld3
import Derived.Test.YtccklgopcjilcaaGreatDoorJCT27
/- The program's order of places of tasks: comparePlaces. -/
namespace Go.Proofs.YtccklgopcjilcaaGreatDoor
open Go.RowKit
set_option linter.unusedVariables false
namespace Gr
open Ex (hid)
structure Ends2 (w:World) (b c:Nat) (x y:Cl.ClD):Prop where
 x0:w.cell? ⟨b,0,none⟩=some (.int .i64 x.inst)
 x1:w.cell? ⟨b,1,none⟩=some (.int .i64 x.step)
 y0:w.cell? ⟨c,0,none⟩=some (.int .i64 y.inst)
 y1:w.cell? ⟨c,1,none⟩=some (.int .i64 y.step)
set_option maxRecDepth 100000 in
set_option maxHeartbeats 4000000 in
theorem implComparePlaces (x y:Cl.ClD) (w:World):Calls Tryz.prog 137 #[.agg #[.int .i64 x.inst,.int .i64 x.step,.int .i64 x.user],.agg #[.int .i64 y.inst,.int .i64 y.step,.int .i64 y.user]] w fun e w'=>e=.returned (.int .i64 (cmpE (x.inst,x.step) (y.inst,y.step)))∧w'=(((w.alloc (.cells #[.int .i64 x.inst,.int .i64 x.step,.int .i64 x.user] 143)).alloc (.cells #[.int .i64 y.inst,.int .i64 y.step,.int .i64 y.user] 143)).alloc (.cells #[.int .i64 (cmpI x.inst y.inst),.int .i64 (cmpI x.step y.step)] 3)).drew:=by
 have h1:((w.alloc (.cells #[.int .i64 x.inst,.int .i64 x.step,.int .i64 x.user] 143)).alloc (.cells #[.int .i64 y.inst,.int .i64 y.step,.int .i64 y.user] 143)).heap[w.heap.size]?=some (.cells #[.int .i64 x.inst,.int .i64 x.step,.int .i64 x.user] 143 (0,0)):=by
  rw [Below.heap_alloc _ _ _ (by simp)]
  exact heap_alloc_new w _
 have h2:((w.alloc (.cells #[.int .i64 x.inst,.int .i64 x.step,.int .i64 x.user] 143)).alloc (.cells #[.int .i64 y.inst,.int .i64 y.step,.int .i64 y.user] 143)).heap[w.heap.size+1]?=some (.cells #[.int .i64 y.inst,.int .i64 y.step,.int .i64 y.user] 143 (0,0)):=by
  have:=heap_alloc_new (w.alloc (.cells #[.int .i64 x.inst,.int .i64 x.step,.int .i64 x.user] 143)) (.cells #[.int .i64 y.inst,.int .i64 y.step,.int .i64 y.user] 143)
  rw [World.size_alloc] at this
  exact this
 have hz:((w.alloc (.cells #[.int .i64 x.inst,.int .i64 x.step,.int .i64 x.user] 143)).alloc (.cells #[.int .i64 y.inst,.int .i64 y.step,.int .i64 y.user] 143)).heap.size=w.heap.size+2:=by simp
 have H1:=hid h1
 have H2:=hid h2
 have HZ:=hid hz
 obtain ⟨r,hr⟩:∃r,r=if cmpI x.inst y.inst≠0 then cmpI x.inst y.inst else cmpI x.step y.step:=⟨_,rfl⟩
 have HV:Hid (cmpE (x.inst,x.step) (y.inst,y.step)=r):=hid (by rw [hr];rfl)
 have HR:=hid hr
 clear hr
 clear h1 h2 hz
 go_enter Tryz.func137,Tryz.ntmps137
 go_wp2
 generalize hw0:(w.alloc (.cells #[.int .i64 x.inst,.int .i64 x.step,.int .i64 x.user] 143)).alloc (.cells #[.int .i64 y.inst,.int .i64 y.step,.int .i64 y.user] 143)=w0 at *
 have HW:=hid hw0
 clear hw0
 have hst0:Ends2 w0 w.heap.size (w.heap.size+1) x y:=⟨by simp [World.cell?,H1.out],by simp [World.cell?,H1.out],by simp [World.cell?,H2.out],by simp [World.cell?,H2.out]⟩
 have hst:Ends2 w0.drew w.heap.size (w.heap.size+1) x y:=⟨hst0.x0,hst0.x1,hst0.y0,hst0.y1⟩
 have hn3:=heap_alloc_new w0 (.cells #[.int .i64 (cmpI x.inst y.inst),.int .i64 (cmpI x.step y.step)] 3)
 have hk:∀b,b<w.heap.size+2→(w0.alloc (.cells #[.int .i64 (cmpI x.inst y.inst),.int .i64 (cmpI x.step y.step)] 3)).heap[b]?=w0.heap[b]?:=fun b hb=>Below.heap_alloc _ _ _ (by have:=HZ.out;omega)
 have hst2:Ends2 (w0.alloc (.cells #[.int .i64 (cmpI x.inst y.inst),.int .i64 (cmpI x.step y.step)] 3)).drew w.heap.size (w.heap.size+1) x y:=by
  have e1:=(hk w.heap.size (by omega)).trans H1.out
  have e2:=(hk (w.heap.size+1) (by omega)).trans H2.out
  exact ⟨by simp [World.cell?,World.drew,e1],by simp [World.cell?,World.drew,e1],by simp [World.cell?,World.drew,e2],by simp [World.cell?,World.drew,e2]⟩
 have ho0:(w0.alloc (.cells #[.int .i64 (cmpI x.inst y.inst),.int .i64 (cmpI x.step y.step)] 3)).drew.cell? ⟨w0.heap.size,0,none⟩=some (.int .i64 (cmpI x.inst y.inst)):=by simp only [World.cell?,World.drew];rw [hn3];rfl
 have ho1:(w0.alloc (.cells #[.int .i64 (cmpI x.inst y.inst),.int .i64 (cmpI x.step y.step)] 3)).drew.cell? ⟨w0.heap.size,1,none⟩=some (.int .i64 (cmpI x.step y.step)):=by simp only [World.cell?,World.drew];rw [hn3];rfl
 have HO:=hid (implOr (cmpI x.inst y.inst) (cmpI x.step y.step) w0.heap.size _ ho0 ho1)
 rw [←HR.out] at HO
 clear hn3 hk hst0 HR
 refine wp_region_held_drew (S:=fun wx=>Ends2 wx (w.heap.size) (w.heap.size+1) x y) (by kernel_rfl) hst (fun hHeld=>?_)
 refine wpAnyH_take (i:=0) (oi:={ dst:=some 5,op:=Go.Op.fieldAddr 143 (Go.Operand.tmp 2) 0,type:=0,pos := "l12_desk.go:104",after:=#[],guard:=none }) (v:=.pointer (some ⟨w.heap.size,0,none⟩)) rfl (by kernel_rfl) (by kernel_rfl) (by kernel_rfl) (fun _ _ _ h=>h) (Or.inl ⟨by rfl,by intro w hSw;(try dsimp only at hSw);obtain ⟨s0,s1,s2,s3⟩:=hSw;go_simp⟩) (by assumption) ?_
 simp only [Act.put,List.setIfInBounds_toArray,List.set_cons_zero,List.set_cons_succ]
 refine wpAnyH_take (i:=1) (oi:={ dst:=some 6,op:=Go.Op.load 2 (Go.Operand.tmp 5),type:=2,pos := "l12_desk.go:104",after:=#[{ on:=0,ground:=Go.Ground.data }],guard:=none }) (v:=.int .i64 x.inst) rfl (by kernel_rfl) (by kernel_rfl) (by kernel_rfl) (fun _ _ _ h=>h) (Or.inl ⟨by rfl,by intro w hSw;(try dsimp only at hSw);obtain ⟨s0,s1,s2,s3⟩:=hSw;go_simp⟩) (by assumption) ?_
 simp only [Act.put,List.setIfInBounds_toArray,List.set_cons_zero,List.set_cons_succ]
 refine wpAnyH_take (i:=2) (oi:={ dst:=some 7,op:=Go.Op.fieldAddr 143 (Go.Operand.tmp 3) 0,type:=0,pos := "l12_desk.go:104",after:=#[],guard:=none }) (v:=.pointer (some ⟨w.heap.size+1,0,none⟩)) rfl (by kernel_rfl) (by kernel_rfl) (by kernel_rfl) (fun _ _ _ h=>h) (Or.inl ⟨by rfl,by intro w hSw;(try dsimp only at hSw);obtain ⟨s0,s1,s2,s3⟩:=hSw;go_simp⟩) (by assumption) ?_
 simp only [Act.put,List.setIfInBounds_toArray,List.set_cons_zero,List.set_cons_succ]
 refine wpAnyH_take (i:=3) (oi:={ dst:=some 8,op:=Go.Op.load 2 (Go.Operand.tmp 7),type:=2,pos := "l12_desk.go:104",after:=#[{ on:=2,ground:=Go.Ground.data }],guard:=none }) (v:=.int .i64 y.inst) rfl (by kernel_rfl) (by kernel_rfl) (by kernel_rfl) (fun _ _ _ h=>h) (Or.inl ⟨by rfl,by intro w hSw;(try dsimp only at hSw);obtain ⟨s0,s1,s2,s3⟩:=hSw;go_simp⟩) (by assumption) ?_
 simp only [Act.put,List.setIfInBounds_toArray,List.set_cons_zero,List.set_cons_succ]
 refine wpAnyH_take (i:=5) (oi:={ dst:=some 10,op:=Go.Op.fieldAddr 143 (Go.Operand.tmp 2) 1,type:=0,pos := "l12_desk.go:104",after:=#[],guard:=none }) (v:=.pointer (some ⟨w.heap.size,1,none⟩)) rfl (by kernel_rfl) (by kernel_rfl) (by kernel_rfl) (fun _ _ _ h=>h) (Or.inl ⟨by rfl,by intro w hSw;(try dsimp only at hSw);obtain ⟨s0,s1,s2,s3⟩:=hSw;go_simp⟩) (by assumption) ?_
 simp only [Act.put,List.setIfInBounds_toArray,List.set_cons_zero,List.set_cons_succ]
 refine wpAnyH_take (i:=6) (oi:={ dst:=some 11,op:=Go.Op.load 2 (Go.Operand.tmp 10),type:=2,pos := "l12_desk.go:104",after:=#[{ on:=5,ground:=Go.Ground.data }],guard:=none }) (v:=.int .i64 x.step) rfl (by kernel_rfl) (by kernel_rfl) (by kernel_rfl) (fun _ _ _ h=>h) (Or.inl ⟨by rfl,by intro w hSw;(try dsimp only at hSw);obtain ⟨s0,s1,s2,s3⟩:=hSw;go_simp⟩) (by assumption) ?_
 simp only [Act.put,List.setIfInBounds_toArray,List.set_cons_zero,List.set_cons_succ]
 refine wpAnyH_take (i:=7) (oi:={ dst:=some 12,op:=Go.Op.fieldAddr 143 (Go.Operand.tmp 3) 1,type:=0,pos := "l12_desk.go:104",after:=#[],guard:=none }) (v:=.pointer (some ⟨w.heap.size+1,1,none⟩)) rfl (by kernel_rfl) (by kernel_rfl) (by kernel_rfl) (fun _ _ _ h=>h) (Or.inl ⟨by rfl,by intro w hSw;(try dsimp only at hSw);obtain ⟨s0,s1,s2,s3⟩:=hSw;go_simp⟩) (by assumption) ?_
 simp only [Act.put,List.setIfInBounds_toArray,List.set_cons_zero,List.set_cons_succ]
 refine wpAnyH_take (i:=8) (oi:={ dst:=some 13,op:=Go.Op.load 2 (Go.Operand.tmp 12),type:=2,pos := "l12_desk.go:104",after:=#[{ on:=7,ground:=Go.Ground.data }],guard:=none }) (v:=.int .i64 y.step) rfl (by kernel_rfl) (by kernel_rfl) (by kernel_rfl) (fun _ _ _ h=>h) (Or.inl ⟨by rfl,by intro w hSw;(try dsimp only at hSw);obtain ⟨s0,s1,s2,s3⟩:=hSw;go_simp⟩) (by assumption) ?_
 simp only [Act.put,List.setIfInBounds_toArray,List.set_cons_zero,List.set_cons_succ]
 refine wpAnyH_ready (rs:=[4]) (by kernel_rfl) (by simp) ?_
 refine (AllReadyH.cons (o:={ dst:=some 9,op:=Go.Op.call { callee:=Go.Callee.value (Go.Operand.func 176),args:=#[Go.Operand.tmp 6,Go.Operand.tmp 8],argTypes:=#[2,2] },type:=3,pos := "l12_desk.go:104",after:=#[{ on:=1,ground:=Go.Ground.data },{ on:=3,ground:=Go.Ground.data }],guard:=none }) rfl (fun K hK=>?_) AllReadyH.nil)
 go_simp
 go_at_call 176
 refine (implCompare x.inst y.inst _).mono ?_
 rintro e w' ⟨rfl,rfl⟩
 go_wp2_with fail
 refine hK.out _ _ hst (fun hHeld=>?_)
 clear hK K
 try simp only [Act.put,List.setIfInBounds_toArray,List.set_cons_zero,List.set_cons_succ]
 refine wpAnyH_ready (rs:=[9]) (by kernel_rfl) (by simp) ?_
 refine (AllReadyH.cons (o:={ dst:=some 14,op:=Go.Op.call { callee:=Go.Callee.value (Go.Operand.func 176),args:=#[Go.Operand.tmp 11,Go.Operand.tmp 13],argTypes:=#[2,2] },type:=3,pos := "l12_desk.go:104",after:=#[{ on:=6,ground:=Go.Ground.data },{ on:=8,ground:=Go.Ground.data },{ on:=4,ground:=Go.Ground.chain }],guard:=none }) rfl (fun K hK=>?_) AllReadyH.nil)
 go_simp
 go_at_call 176
 refine (implCompare x.step y.step _).mono ?_
 rintro e w' ⟨rfl,rfl⟩
 go_wp2_with fail
 refine hK.out _ _ hst (fun hHeld=>?_)
 clear hK K
 try simp only [Act.put,List.setIfInBounds_toArray,List.set_cons_zero,List.set_cons_succ]
 refine wpAnyH_ready (rs:=[10]) (by kernel_rfl) (by simp) ?_
 refine (AllReadyH.cons (o:={ dst:=some 15,op:=Go.Op.buildSlice 281 2 #[(0,Go.Operand.tmp 9),(1,Go.Operand.tmp 14)],type:=281,pos := "l12_desk.go:104",after:=#[{ on:=4,ground:=Go.Ground.data },{ on:=9,ground:=Go.Ground.data }],guard:=none }) rfl (fun K hK=>?_) AllReadyH.nil)
 go_simp
 refine hK.out _ _ hst2 (fun hHeld=>?_)
 clear hK K
 try simp only [Act.put,List.setIfInBounds_toArray,List.set_cons_zero,List.set_cons_succ]
 refine wpAnyH_ready (rs:=[11]) (by kernel_rfl) (by simp) ?_
 refine (AllReadyH.cons (o:={ dst:=some 16,op:=Go.Op.call { callee:=Go.Callee.value (Go.Operand.func 175),args:=#[Go.Operand.tmp 15],argTypes:=#[281] },type:=3,pos := "l12_desk.go:104",after:=#[{ on:=10,ground:=Go.Ground.data },{ on:=9,ground:=Go.Ground.chain }],guard:=none }) rfl (fun K hK=>?_) AllReadyH.nil)
 go_simp
 go_at_call 175
 refine HO.out.mono ?_
 rintro e w' ⟨rfl,rfl⟩
 go_wp2_with fail
 refine hK.out _ _ hst2 (fun hHeld=>?_)
 clear hK K
 try simp only [Act.put,List.setIfInBounds_toArray,List.set_cons_zero,List.set_cons_succ]
 refine wpAnyH_take (i:=12) (oi:={ dst:=some 4,op:=Go.Op.assign (Go.Operand.tmp 16),type:=3,pos := "l12_desk.go:104",after:=#[{ on:=11,ground:=Go.Ground.data },{ on:=11,ground:=Go.Ground.chain },{ on:=0,ground:=Go.Ground.phase },{ on:=1,ground:=Go.Ground.phase },{ on:=2,ground:=Go.Ground.phase },{ on:=3,ground:=Go.Ground.phase },{ on:=4,ground:=Go.Ground.phase },{ on:=5,ground:=Go.Ground.phase },{ on:=6,ground:=Go.Ground.phase },{ on:=7,ground:=Go.Ground.phase },{ on:=8,ground:=Go.Ground.phase },{ on:=9,ground:=Go.Ground.phase },{ on:=10,ground:=Go.Ground.phase },{ on:=11,ground:=Go.Ground.phase }],guard:=none }) (v:=.int .i64 r) rfl (by kernel_rfl) (by kernel_rfl) (by kernel_rfl) (fun _ _ _ h=>h) (Or.inl ⟨by rfl,by intro w hSw;(try dsimp only at hSw);obtain ⟨s0,s1,s2,s3⟩:=hSw;go_simp⟩) (by assumption) ?_
 simp only [Act.put,List.setIfInBounds_toArray,List.set_cons_zero,List.set_cons_succ]
 refine wpAnyH_done (by kernel_rfl) ?_ _
 clear hst hst2 ho0 ho1 hHeld
 go_wp2
 go_ret
 exact ⟨by rw [HV.out];rfl,by rw [HW.out]⟩
end Gr
end Go.Proofs.YtccklgopcjilcaaGreatDoor
/- EngineFault of the program, whole. Condition: the table of rules lies as its initialiser lays it. -/
namespace Go.Proofs.YtccklgopcjilcaaGreatDoor
open Go.RowKit Go.Deep
set_option linter.unusedVariables false
namespace Eg
open St (StepD)
open Ei (InstD)
open En (EngD)
open Kc (chartC)
open Pf (pFault Rul implProcFault)
open Ex (inR hid)
set_option maxRecDepth 100000 in
set_option maxHeartbeats 8000000 in
theorem implEngineFault (e:EngD) (vp vi:Value) (w:World) (hs:En.Small 1048576 e) (ha:En.At w 0 vp vi e) (hr:Rul w):
    Calls Tryz.prog 99 #[.agg #[vp,vi,.int .i64 e.now]] w fun z w'=>z=.returned (.int .i64 (engC e))∧Below w.heap.size w w':=by
 obtain ⟨a1,k1,rfl⟩:=ha.procs.slice
 obtain ⟨a2,k2,rfl⟩:=ha.insts.slice
 have hl1:=hs.procs.1
 have hl2:=hs.insts.1
 have HB:Hid (Below w.heap.size w (w.alloc (.cells #[.slice a1 e.procs.length k1,.slice a2 e.insts.length k2,.int .i64 e.now] 27))):=hid ((Below.refl _ w).alloc (Nat.le_refl _) _)
 by_cases q1:(e.procs.length:Int)<1
 ·have HE:=hid (e_many (e:=e) (by omega))
  clear hs ha hr
  go_enter Tryz.func99,Tryz.ntmps99
  go_wp2
  go_ret
  exact ⟨by rw [HE.out];rfl,HB.out⟩
 by_cases q2:3<(e.procs.length:Int)
 ·have HE:=hid (e_many (e:=e) (by omega))
  clear hs ha hr
  go_enter Tryz.func99,Tryz.ntmps99
  go_wp2
  go_ret
  exact ⟨by rw [HE.out];rfl,HB.out⟩
 by_cases q3:6<(e.insts.length:Int)
 ·have HE:=hid (e_many (e:=e) (by omega))
  clear hs ha hr
  go_enter Tryz.func99,Tryz.ntmps99
  go_wp2
  go_ret
  exact ⟨by rw [HE.out];rfl,HB.out⟩
 obtain ⟨w0,e0⟩:∃w0,w0=w.alloc (.cells #[.slice a1 e.procs.length k1,.slice a2 e.insts.length k2,.int .i64 e.now] 27):=⟨_,rfl⟩
 rw [←e0] at HB
 have HA:=hid (ha.below HB.out)
 have HR:=hid (hr.below HB.out hr.lt)
 have HK:Hid (w0.heap[w.heap.size]?=some (.cells #[.slice a1 e.procs.length k1,.slice a2 e.insts.length k2,.int .i64 e.now] 27)):=hid (by rw [e0];exact Ch.new_blk _ _)
 have HS0:=hid hs
 have HP0:=hid (p_few (ps:=e.procs) (by omega))
 have HI0:=hid (show ¬6<e.insts.length by omega)
 clear hs ha hr
 go_enter Tryz.func99,Tryz.ntmps99
 go_wp2_with fail
 rw [←e0]
 clear e0 q1 q2 q3
 go_loopw [27,4,5] (fun x _ _ wr=>∃k:Nat,x=.int .i64 k∧k≤e.procs.length∧Hid (procsC e.procs=firstNZ pFault (e.procs.drop k))∧Hid (Below w0.heap.size w0 wr)) (fun x _ _ _=>e.procs.length - (intOf x).toNat)
 case atStart=>exact ⟨0,rfl,Nat.zero_le _,HP0,hid (Below.refl _ _)⟩
 case round=>
  obtain ⟨k,rfl,hk,HP,HBR⟩:=hrel
  by_cases hlt:k<e.procs.length
  ·obtain ⟨g,o,x1,rfl,hg,p0,hst⟩:=(HA.out.below HBR.out).procs.at hlt
   have t1:(k:Int)<(e.procs.length:Int):=by omega
   obtain ⟨b1,l1,rfl⟩:=hst.slice
   obtain ⟨w2,e2⟩:∃w2,w2=wr.alloc (.cells #[.slice b1 e.procs[k].length l1] 89):=⟨_,rfl⟩
   have hb2:Below wr.heap.size wr w2:=by rw [e2];exact (Below.refl _ wr).alloc (Nat.le_refl _) _
   have hrr:=HR.out.below HBR.out HR.out.lt
   have HC:=hid (implProcFault e.procs[k] _ w2 (HS0.out.procs.at hlt) (hst.below hb2) (hrr.below hb2 hrr.lt))
   have HB2:=hid (HBR.out.trans (hb2.mono HBR.out.size))
   clear hst hb2 hrr
   go_wp2_with fail
   rw [←e2]
   clear e2
   refine HC.out.mono ?_
   rintro z w3 ⟨rfl,hb3⟩
   have HB3:=hid (HB2.out.trans (hb3.mono HB2.out.size))
   clear hb3 HC HB2
   by_cases hz:pFault e.procs[k]=0
   ·have HN:Hid (procsC e.procs=firstNZ pFault (e.procs.drop (k+1))):=hid (by rw [HP.out,nz_next hlt hz])
    rw [hz]
    have b0:((0:Int) != 0)=false:=rfl
    clear hz HP
    go_wp2
    exact ⟨⟨k+1,by simp,by omega,HN,HB3⟩,by simp [intOf];omega⟩
   ·have HN:Hid (engC e=pFault e.procs[k]):=hid (by
     have h1:procsC e.procs=pFault e.procs[k]:=by rw [HP.out,nz_bad hlt hz]
     rw [e_proc HI0.out (by rw [h1];exact hz),h1])
    have b0:(pFault e.procs[k] != 0)=true:=bne_iff_ne.2 hz
    generalize pFault e.procs[k]=pc at *
    clear hz HP
    go_wp2
    go_ret
    exact ⟨by rw [HN.out];rfl,HB.out.trans (HB3.out.mono HB.out.size)⟩
  ·have HPZ:Hid (procsC e.procs=0):=hid (by rw [HP.out,nz_end (by omega)])
   have hk1:=(HBR.out.block _ (Ch.blk_lt HK.out)).trans HK.out
   have m2:=Ch.blk_cell hk1 2
   have lk:=Ch.blk_lt hk1
   replace m2:wr.cell? ⟨w.heap.size,2,none⟩=some (.int .i64 e.now):=m2
   have HT:=hid (fun w'=>Kc.isTime e.now w')
   have m1:=Ch.blk_cell hk1 1
   replace m1:wr.cell? ⟨w.heap.size,1,none⟩=some (.slice a2 e.insts.length k2):=m1
   clear HP HP0 hk1
   go_wp2_with fail
   refine (HT.out _).mono ?_
   rintro z w3 ⟨rfl,hw3⟩
   replace hw3:=hw3.symm
   subst hw3
   cases hx:inR e.now 0 1000000
   ·have HE:=hid (e_now HI0.out HPZ.out hx)
    clear hx
    go_wp2
    go_ret
    exact ⟨by rw [HE.out];rfl,HB.out.trans (HBR.out.mono HB.out.size)⟩
   have HE:=hid (e_inst HI0.out HPZ.out hx)
   clear hx HPZ HI0 HT
   go_wp2_with fail
   clear hlt hk m1 m2 lk
   go_loopw [45,6,7] (fun x _ _ wr=>∃k:Nat,x=.int .i64 k∧k≤e.insts.length∧Hid (engC e=firstNZ (instC e) (e.insts.drop k))∧Hid (Below w0.heap.size w0 wr)) (fun x _ _ _=>e.insts.length - (intOf x).toNat)
   case atStart=>exact ⟨0,rfl,Nat.zero_le _,HE,HBR⟩
   case round=>
    clear HBR HE
    obtain ⟨k,rfl,hk,HE,HBR⟩:=hrel
    have hk1:=(HBR.out.block _ (Ch.blk_lt HK.out)).trans HK.out
    by_cases hlt:k<e.insts.length
    ·have t1:(k:Int)<(e.insts.length:Int):=by omega
     have m0:=Ch.blk_cell hk1 0
     have m1:=Ch.blk_cell hk1 1
     have m2:=Ch.blk_cell hk1 2
     have lk:=Ch.blk_lt hk1
     replace m0:wr.cell? ⟨w.heap.size,0,none⟩=some (.slice a1 e.procs.length k1):=m0
     replace m1:wr.cell? ⟨w.heap.size,1,none⟩=some (.slice a2 e.insts.length k2):=m1
     replace m2:wr.cell? ⟨w.heap.size,2,none⟩=some (.int .i64 e.now):=m2
     have HC:=hid (implInstFault e _ _ k wr HS0.out (HA.out.below HBR.out) (HR.out.below HBR.out HR.out.lt) hlt)
     clear hk1
     go_wp2_with fail
     refine HC.out.mono ?_
     rintro z w3 ⟨rfl,hb3⟩
     have HB3:=hid (HBR.out.trans (hb3.mono HBR.out.size))
     clear hb3 HC m0 m1 m2 lk
     by_cases hz:instC e e.insts[k]=0
     ·have HN:Hid (engC e=firstNZ (instC e) (e.insts.drop (k+1))):=hid (by rw [HE.out,nz_next hlt hz])
      rw [hz]
      have b0:((0:Int) != 0)=false:=rfl
      clear hz HE
      go_wp2
      exact ⟨⟨k+1,by simp,by omega,HN,HB3⟩,by simp [intOf];omega⟩
     ·have HN:Hid (engC e=instC e e.insts[k]):=hid (by rw [HE.out,nz_bad hlt hz])
      have b0:(instC e e.insts[k] != 0)=true:=bne_iff_ne.2 hz
      generalize instC e e.insts[k]=pc at *
      clear hz HE
      go_wp2
      go_ret
      exact ⟨by rw [HN.out];rfl,HB.out.trans (HB3.out.mono HB.out.size)⟩
    ·have HZ:Hid (engC e=0):=hid (by rw [HE.out,nz_end (by omega)])
     clear HE hk1
     go_wp2
     go_ret
     exact ⟨by rw [HZ.out];rfl,HB.out.trans (HBR.out.mono HB.out.size)⟩
end Eg
end Go.Proofs.YtccklgopcjilcaaGreatDoor
