/- Laid together: KsG, EgS. -/
import Derived.Test.YtccklgopcjilcaaGreatDoorJCT31
import Derived.BigQuiet
import Derived.Test.YtccklgopcjilcaaGreatDoorJCT24
import Derived.Test.YtccklgopcjilcaaGreatDoorJCT18
import Derived.Test.YtccklgopcjilcaaGreatDoorJCT27
import Derived.Deep.RegionHeld3
/- The specification's ChartFault. -/
namespace Go.Proofs.YtccklgopcjilcaaGreatDoor
open Go.RowKit Go.Deep
set_option linter.unusedVariables false
set_option linter.unusedSimpArgs false
namespace Ks
open Ex (inR evalCode evalVal vFault hid specIn)
open St (StepD)
open Ch (RunD)
open Pf
open Kc (fA fD fA_eq fD_eq wrongP within zeros fitsP chartC numC stateC c_proc c_num c_form c_ok num_state num_len num_range num_ok st_status st_now st_vars within_take within_bad zeros_take)
def noWrong (ss:List StepD) (r:RunD) (n:Nat):Bool:=(List.range n).all fun k=>!wrongP ss (fA r) (fD r) k
theorem noWrong_succ (ss:List StepD) (r:RunD) (n:Nat):noWrong ss r (n+1)=(noWrong ss r n&&!wrongP ss (fA r) (fD r) n):=by
 unfold noWrong
 rw [List.range_succ,List.all_append]
 simp
theorem noWrong_no {ss:List StepD} {r:RunD} {n k:Nat} (hk:k<n) (h:wrongP ss (fA r) (fD r) k=true):noWrong ss r n=false:=by
 unfold noWrong
 rw [List.all_eq_false]
 exact ⟨k,List.mem_range.2 hk,by simp [h]⟩
theorem fits_live {ss:List StepD} {r:RunD} (h:r.status=1):fitsP ss r=((fA r 0==1)&&noWrong ss r ss.length):=by unfold fitsP;rw [if_neg (by simp [h])];rfl
theorem fits_not {ss:List StepD} {r:RunD} (h:r.status≠1):fitsP ss r=(zeros r.marks&&zeros r.dues):=by unfold fitsP;rw [if_pos h]
set_option maxRecDepth 100000 in
set_option maxHeartbeats 32000000 in
theorem specChartFaultO (B:Nat) (ss:List StepD) (v:Value) (R O:Nat) (r:RunD) (v1 v2 v3:Value) (w:World) (hsm:St.Small 1048576 ss) (hs:Ch.Small 1048576 r) (ha:St.At w B v ss) (hc:CPo w R O v1 v2 v3 r):
    Calls Tryz.prog 156 #[v,.pointer (some ⟨R,O,none⟩)] w fun e w'=>e=.returned (.int .i64 (chartC ss r))∧Below w.heap.size w w':=by
 obtain ⟨a,cap,rfl⟩:=ha.slice
 obtain ⟨a1,c1,rfl⟩:=hc.row.vars.slice
 obtain ⟨a2,c2,rfl⟩:=hc.row.marks.slice
 obtain ⟨a3,c3,rfl⟩:=hc.row.dues.slice
 have s1:=hs.vars
 have s2:=hs.marks
 have s3:=hs.dues
 have HF:=hid (specFault B ss _ w hsm ha)
 have HA:=hid ha
 have HC:=hid hc
 clear ha hc hsm hs
 go_enter Tryz.func156,Tryz.ntmps156
 go_wp2_with fail
 refine HF.out.mono ?_
 rintro e w1 ⟨rfl,hb1⟩
 have HB1:=hid hb1
 have hC1:=HC.out.below hb1
 have m0:w1.cell? ⟨R,O,none⟩=some (.int .i64 r.status):=hC1.c0
 have m1:w1.cell? ⟨R,O+1,none⟩=some (.int .i64 r.now):=hC1.c1
 have m2:w1.cell? ⟨R,O+2,none⟩=some (.slice a1 r.vars.length c1):=hC1.c2
 have m3:w1.cell? ⟨R,O+3,none⟩=some (.slice a2 r.marks.length c2):=hC1.c3
 have m4:w1.cell? ⟨R,O+4,none⟩=some (.slice a3 r.dues.length c3):=hC1.c4
 have HI:=hid (fun w'=>specIn r.status 1 3 w')
 have HT:=hid (fun w'=>specTime r.now w')
 have HVF:=hid (Ex.specVars 0 r.vars _ w1 (by omega) hC1.row.vars)
 have HC1:=hid hC1
 have HA1:=hid (HA.out.below hb1)
 clear HF hb1 hC1 HC HA
 rcases (Classical.em (pFault ss=0)).symm with hf | hf
 ·have b0:(pFault ss != 0)=true:=bne_iff_ne.2 hf
  have HX:=hid (c_proc (r:=r) hf)
  clear hf
  go_wp2
  go_ret
  exact ⟨by rw [HX.out];rfl,HB1.out⟩
 have b0:(pFault ss != 0)=false:=by simp [hf]
 have HP:=hid hf
 have hl:ss.length≤24:=by have:=(of_p hf).1;omega
 have hpos:0<ss.length:=by have:=(of_p hf).1;omega
 clear hf
 cases h1:inR r.status 1 3
 ·have HX:Hid (chartC ss r=3):=hid (by have e:=st_status (now:=r.now) (vars:=r.vars) h1;rw [c_num HP.out (by rw [num_state (by rw [e];decide),e];decide),num_state (by rw [e];decide),e])
  rw [h1] at HI
  clear h1
  go_wp2_with (go_at_call 118;refine (HI.out _).mono ?_;rintro e w2 ⟨rfl,hw2⟩;replace hw2:=hw2.symm;subst hw2)
  go_ret
  exact ⟨by rw [HX.out];rfl,HB1.out⟩
 rw [h1] at HI
 cases h2:inR r.now 0 1000000
 ·have HX:Hid (chartC ss r=3):=hid (by have e:=st_now (vars:=r.vars) h1 h2;rw [c_num HP.out (by rw [num_state (by rw [e];decide),e];decide),num_state (by rw [e];decide),e])
  rw [h2] at HT
  clear h1 h2
  go_wp2_with (first | (go_at_call 118;refine (HI.out _).mono ?_;rintro e w2 ⟨rfl,hw2⟩;replace hw2:=hw2.symm;subst hw2) | (go_at_call 155;refine (HT.out _).mono ?_;rintro e w2 ⟨rfl,hw2⟩;replace hw2:=hw2.symm;subst hw2))
  go_ret
  exact ⟨by rw [HX.out];rfl,HB1.out⟩
 rw [h2] at HT
 have HSV:=hid (st_vars (vars:=r.vars) h1 h2)
 have hnow:=Ex.inR_iff.1 h2
 clear h1 h2
 rcases (Classical.em (vFault r.vars=0)).symm with h3 | h3
 ·have b3:(vFault r.vars != 0)=true:=bne_iff_ne.2 h3
  have hne:stateC r.status r.now r.vars≠0:=by rw [HSV.out];exact h3
  have HX:Hid (chartC ss r=vFault r.vars):=hid (by rw [c_num HP.out (by rw [num_state hne];exact hne),num_state hne,HSV.out])
  clear hne
  clear h3
  go_wp2_with (first | (go_at_call 118;refine (HI.out _).mono ?_;rintro e w2 ⟨rfl,hw2⟩;replace hw2:=hw2.symm;subst hw2) | (go_at_call 155;refine (HT.out _).mono ?_;rintro e w2 ⟨rfl,hw2⟩;replace hw2:=hw2.symm;subst hw2) | (go_at_call 188;refine HVF.out.mono ?_;rintro e w2 ⟨rfl,hw2⟩;replace hw2:=hw2.symm;subst hw2))
  go_ret
  exact ⟨by rw [HX.out];rfl,HB1.out⟩
 have b3:(vFault r.vars != 0)=false:=by simp [h3]
 have HST:Hid (stateC r.status r.now r.vars=0):=hid (by rw [HSV.out];exact h3)
 clear h3 HSV
 rcases (Classical.em (r.marks.length=ss.length∧r.dues.length=ss.length)).symm with h4 | h4
 ·have HX:Hid (chartC ss r=2):=hid (by have e:=num_len HST.out h4;rw [c_num HP.out (by rw [e];decide),e])
  by_cases h5:r.marks.length=ss.length
  ·have b4:((r.marks.length:Int) != (ss.length:Int))=false:=by simp [h5]
   have b5:((r.dues.length:Int) != (ss.length:Int))=true:=bne_iff_ne.2 (fun e=>h4 ⟨h5,by omega⟩)
   clear h4 h5
   go_wp2_with (first | (go_at_call 118;refine (HI.out _).mono ?_;rintro e w2 ⟨rfl,hw2⟩;replace hw2:=hw2.symm;subst hw2) | (go_at_call 155;refine (HT.out _).mono ?_;rintro e w2 ⟨rfl,hw2⟩;replace hw2:=hw2.symm;subst hw2) | (go_at_call 188;refine HVF.out.mono ?_;rintro e w2 ⟨rfl,hw2⟩;replace hw2:=hw2.symm;subst hw2))
   go_ret
   exact ⟨by rw [HX.out];rfl,HB1.out⟩
  ·have b4:((r.marks.length:Int) != (ss.length:Int))=true:=bne_iff_ne.2 (fun e=>h5 (by omega))
   clear h4 h5
   go_wp2_with (first | (go_at_call 118;refine (HI.out _).mono ?_;rintro e w2 ⟨rfl,hw2⟩;replace hw2:=hw2.symm;subst hw2) | (go_at_call 155;refine (HT.out _).mono ?_;rintro e w2 ⟨rfl,hw2⟩;replace hw2:=hw2.symm;subst hw2) | (go_at_call 188;refine HVF.out.mono ?_;rintro e w2 ⟨rfl,hw2⟩;replace hw2:=hw2.symm;subst hw2))
   go_ret
   exact ⟨by rw [HX.out];rfl,HB1.out⟩
 have b4:((r.marks.length:Int) != (ss.length:Int))=false:=by simp [h4.1]
 have b5:((r.dues.length:Int) != (ss.length:Int))=false:=by simp [h4.2]
 have HLM:=hid h4.1
 have HLD:=hid h4.2
 clear h4
 have HNR:Hid ((within r.marks 2&&within r.dues (r.now+99))=false→chartC ss r=3):=hid (fun h=>by have e:=num_range HST.out HLM.out HLD.out h;rw [c_num HP.out (by rw [e];decide),e])
 have HNK:Hid (within r.marks 2=true→within r.dues (r.now+99)=true→numC ss.length r=0):=hid (fun h h'=>num_ok HST.out HLM.out HLD.out h h')
 go_wp2_with (first | (go_at_call 118;refine (HI.out _).mono ?_;rintro e w2 ⟨rfl,hw2⟩;replace hw2:=hw2.symm;subst hw2) | (go_at_call 155;refine (HT.out _).mono ?_;rintro e w2 ⟨rfl,hw2⟩;replace hw2:=hw2.symm;subst hw2) | (go_at_call 188;refine HVF.out.mono ?_;rintro e w2 ⟨rfl,hw2⟩;replace hw2:=hw2.symm;subst hw2))
 clear HI HT HVF b0 b3 b4 b5 m0 m1 m2 m3 m4
 go_loopw [7,8] (fun y z wr=>∃(i:Nat) (sm:Bool),z=.int .i64 i∧y=.bool sm∧i≤ss.length∧Hid (within (r.marks.take i) 2=true∧within (r.dues.take i) (r.now+99)=true∧sm=!(zeros (r.marks.take i)&&zeros (r.dues.take i)))∧Hid (Below w1.heap.size w1 wr)) (fun _ z _=>ss.length - (intOf z).toNat)
 case atStart=>exact ⟨0,false,rfl,rfl,Nat.zero_le _,hid ⟨rfl,rfl,rfl⟩,hid (Below.refl _ _)⟩
 case round=>
  obtain ⟨i,sm,rfl,rfl,hi,HM,HBR⟩:=hrel
  have hC:=HC1.out.below HBR.out
  have m0:wr.cell? ⟨R,O,none⟩=some (.int .i64 r.status):=hC.c0
  have m1:wr.cell? ⟨R,O+1,none⟩=some (.int .i64 r.now):=hC.c1
  have m3:wr.cell? ⟨R,O+3,none⟩=some (.slice a2 r.marks.length c2):=hC.c3
  have m4:wr.cell? ⟨R,O+4,none⟩=some (.slice a3 r.dues.length c3):=hC.c4
  have HBW:=hid (HB1.out.trans (HBR.out.mono HB1.out.size))
  obtain ⟨g2,o2,rfl,hac⟩:=nu_cell hC.row.marks (by rw [HLM.out];omega)
  obtain ⟨g3,o3,rfl,hdc⟩:=nu_cell hC.row.dues (by rw [HLD.out];omega)
  by_cases hlt:i<ss.length
  ·have q1:(i:Int)<(ss.length:Int):=by omega
   have him:i<r.marks.length:=by rw [HLM.out];exact hlt
   have hid':i<r.dues.length:=by rw [HLD.out];exact hlt
   have q2:(i:Int)<(r.marks.length:Int):=by omega
   have q3:(i:Int)<(r.dues.length:Int):=by omega
   have n2:=hac _ him
   have n3:=hdc _ hid'
   have HT1:=hid (within_take (m:=2) him)
   have HT2:=hid (within_take (m:=r.now+99) hid')
   have HZ1:=hid (zeros_take him)
   have HZ2:=hid (zeros_take hid')
   have HW1:=hid (within_bad (m:=2) him)
   have HW2:=hid (within_bad (m:=r.now+99) hid')
   clear hac hdc hC
   generalize r.marks[i]=am at *
   generalize r.dues[i]=ad at *
   clear him hid'
   cases hA:inR am 0 2
   ·have HX:Hid (chartC ss r=3):=hid (HNR.out (by rw [HW1.out hA];rfl))
    clear HT1 HT2 HZ1 HZ2 HW1 HW2 HM
    go_wp2
    try simp only [List.append_eq,List.cons_append,List.nil_append]
    go_quiet ((go_at_call 118;exact Calls.quiet_of_same (specIn _ _ _ _)))
    go_wp2
    go_ret
    exact ⟨by rw [HX.out];rfl,Ints.below_drewN HBW.out nq⟩
   ·rw [hA] at HT1
    cases hD:inR ad 0 (r.now+99)
    ·have HX:Hid (chartC ss r=3):=hid (HNR.out (by rw [HW2.out hD,Bool.and_false]))
     clear HT1 HT2 HZ1 HZ2 HW1 HW2 HM
     go_wp2
     try simp only [List.append_eq,List.cons_append,List.nil_append]
     go_quiet ((go_at_call 118;exact Calls.quiet_of_same (specIn _ _ _ _)))
     go_wp2
     go_ret
     exact ⟨by rw [HX.out];rfl,Ints.below_drewN HBW.out nq⟩
    ·rw [hD] at HT2
     have HX:Hid (within (r.marks.take (i+1)) 2=true∧within (r.dues.take (i+1)) (r.now+99)=true∧(sm || (am != 0) || (ad != 0))=!(zeros (r.marks.take (i+1))&&zeros (r.dues.take (i+1)))):=hid (by
      obtain ⟨x1,x2,x3⟩:=HM.out
      refine ⟨by rw [HT1.out,x1];rfl,by rw [HT2.out,x2];rfl,?_⟩
      rw [HZ1.out,HZ2.out,x3]
      have e1:(am != 0)=!(am==0):=rfl
      have e2:(ad != 0)=!(ad==0):=rfl
      rw [e1,e2]
      generalize (am==0)=p1
      generalize (ad==0)=p2
      generalize zeros (r.marks.take i)=p3
      generalize zeros (r.dues.take i)=p4
      cases p1 <;> cases p2 <;> cases p3 <;> cases p4 <;> rfl)
     clear HT1 HT2 HZ1 HZ2 HW1 HW2 HM
     cases sm
     ·cases hx1:(am != 0)
      ·rw [hx1] at HX
       go_wp2
       try simp only [List.append_eq,List.cons_append,List.nil_append]
       go_quiet ((go_at_call 118;exact Calls.quiet_of_same (specIn _ _ _ _)))
       go_wp2
       exact ⟨⟨i+1,(ad != 0),by simp,rfl,by omega,HX,hid (Ints.below_drewN HBR.out nq)⟩,by simp [intOf];omega⟩
      ·rw [hx1] at HX
       go_wp2
       try simp only [List.append_eq,List.cons_append,List.nil_append]
       go_quiet ((go_at_call 118;exact Calls.quiet_of_same (specIn _ _ _ _)))
       go_wp2
       exact ⟨⟨i+1,true,by simp,rfl,by omega,HX,hid (Ints.below_drewN HBR.out nq)⟩,by simp [intOf];omega⟩
     ·go_wp2
      try simp only [List.append_eq,List.cons_append,List.nil_append]
      go_quiet ((go_at_call 118;exact Calls.quiet_of_same (specIn _ _ _ _)))
      go_wp2
      exact ⟨⟨i+1,true,by simp,rfl,by omega,HX,hid (Ints.below_drewN HBR.out nq)⟩,by simp [intOf];omega⟩
  ·have hie:i=ss.length:=by omega
   have HM2:Hid (within r.marks 2=true∧within r.dues (r.now+99)=true∧sm=!(zeros r.marks&&zeros r.dues)):=hid (by
    have:=HM.out
    rwa [List.take_of_length_le (by rw [HLM.out];omega),List.take_of_length_le (by rw [HLD.out];omega)] at this)
   have HNZ:=hid (HNK.out HM2.out.1 HM2.out.2.1)
   have q1:¬(i:Int)<(ss.length:Int):=by omega
   clear HM hie HNR HNK
   rcases (Classical.em (r.status=1)).symm with hst | hst
   ·have b6:(r.status != 1)=true:=bne_iff_ne.2 hst
    have HFN:=hid (fits_not (ss:=ss) hst)
    clear hst hac hdc hC
    cases sm
    ·have HX:Hid (chartC ss r=0):=hid (c_ok HP.out HNZ.out (by rw [HFN.out];have:=HM2.out.2.2;revert this;cases zeros r.marks <;> cases zeros r.dues <;> simp))
     clear HM2 HFN
     go_wp2
     go_ret
     exact ⟨by rw [HX.out];rfl,HBW.out⟩
    ·have HX:Hid (chartC ss r=1):=hid (c_form HP.out HNZ.out (by rw [HFN.out];have:=HM2.out.2.2;revert this;cases zeros r.marks <;> cases zeros r.dues <;> simp))
     clear HM2 HFN
     go_wp2
     go_ret
     exact ⟨by rw [HX.out];rfl,HBW.out⟩
   ·have b6:(r.status != 1)=false:=by simp [hst]
    have HFL:=hid (fits_live (ss:=ss) hst)
    have h0m:0<r.marks.length:=by rw [HLM.out];exact hpos
    have n0:=hac 0 h0m
    rw [←fA_eq h0m,Nat.add_zero] at n0
    have q5:(0:Int)<(r.marks.length:Int):=by omega
    clear hst hac hdc hC h0m HM2
    rcases (Classical.em (fA r 0=1)).symm with h0 | h0
    ·have b7:(fA r 0 != 1)=true:=bne_iff_ne.2 h0
     have HX:Hid (chartC ss r=1):=hid (c_form HP.out HNZ.out (by rw [HFL.out,beq_eq_false_iff_ne.2 h0];rfl))
     clear h0
     go_wp2
     go_ret
     exact ⟨by rw [HX.out];rfl,HBW.out⟩
    ·have b7:(fA r 0 != 1)=false:=by simp [h0]
     have HFL2:Hid (fitsP ss r=noWrong ss r ss.length):=hid (by rw [HFL.out,h0];rfl)
     clear h0 HFL
     go_wp2
     clear m0 m1 m3 m4 n0 b6 b7 q1 q5
     have HC2:=hid (HC1.out.below HBR.out)
     have HA2:=hid (HA1.out.below HBR.out)
     obtain ⟨w3,hw3⟩:∃w3,w3=wr:=⟨_,rfl⟩
     rw [←hw3] at HC2 HA2 HBW
     have HE3:=hid hw3
     clear hw3 HBR
     go_loopw [9] (fun z wq=>∃k:Nat,z=.int .i64 k∧k≤ss.length∧Hid (noWrong ss r k=true)∧Hid (Below w3.heap.size w3 wq)) (fun z _=>ss.length - (intOf z).toNat)
     case atStart=>exact ⟨0,rfl,Nat.zero_le _,hid rfl,hid (by rw [HE3.out];exact Below.refl _ _)⟩
     case round=>
      obtain ⟨k,rfl,hk,HNW,HBQ⟩:=hrel
      have HBX:=hid (HBW.out.trans (HBQ.out.mono HBW.out.size))
      by_cases hlt:k<ss.length
      ·have q1:(k:Int)<(ss.length:Int):=by omega
       have HWR:=hid (specWrong B ss _ k R O r _ _ _ _ HP.out hlt (HA2.out.below HBQ.out) (HC2.out.below HBQ.out) HLM.out HLD.out)
       have HNX:=hid (noWrong_succ ss r k)
       have HNO:=hid (fun h=>noWrong_no (ss:=ss) (r:=r) hlt h)
       generalize wrongP ss (fA r) (fD r) k=wp at *
       go_wp2_with fail
       refine HWR.out.mono ?_
       rintro e w4 ⟨rfl,hb4⟩
       have HB4:=hid (HBQ.out.trans (hb4.mono HBQ.out.size))
       have HB5:=hid (HBX.out.trans (hb4.mono HBX.out.size))
       clear hb4 HWR
       cases wp
       ·have HX:Hid (noWrong ss r (k+1)=true):=hid (by rw [HNX.out,HNW.out];rfl)
        clear HNX HNO HNW
        go_wp2
        exact ⟨⟨k+1,by simp,by omega,HX,HB4⟩,by simp [intOf];omega⟩
       ·have HX:Hid (chartC ss r=1):=hid (c_form HP.out HNZ.out (by rw [HFL2.out,HNO.out rfl]))
        clear HNX HNO HNW
        go_wp2
        go_ret
        exact ⟨by rw [HX.out];rfl,HB5.out⟩
      ·have hke:k=ss.length:=by omega
       have HX:Hid (chartC ss r=0):=hid (c_ok HP.out HNZ.out (by rw [HFL2.out,←hke];exact HNW.out))
       have q1:¬(k:Int)<(ss.length:Int):=by omega
       clear HNW hke
       go_wp2
       go_ret
       exact ⟨by rw [HX.out];rfl,HBX.out⟩
end Ks
end Go.Proofs.YtccklgopcjilcaaGreatDoor
/- EngineFault of the specification. No condition. -/
namespace Go.Proofs.YtccklgopcjilcaaGreatDoor
open Go.RowKit Go.Deep
set_option linter.unusedVariables false
namespace Eg
open St (StepD)
open Ei (InstD)
open En (EngD)
open Kc (chartC)
open Pf (pFault)
open Ex (inR hid specIn)
structure EAt (w:World) (P:Nat) (vp vi:Value) (n:Int):Prop where
 lt:P<w.heap.size
 c0:w.cell? ⟨P,0,none⟩=some vp
 c1:w.cell? ⟨P,1,none⟩=some vi
 c2:w.cell? ⟨P,2,none⟩=some (.int .i64 n)
theorem EAt.below {w w':World} {P:Nat} {vp vi:Value} {n:Int} (h:EAt w P vp vi n) (hb:Below w.heap.size w w'):EAt w' P vp vi n:=⟨Nat.lt_of_lt_of_le h.lt hb.size,St.old_cell hb h.lt h.c0,St.old_cell hb h.lt h.c1,St.old_cell hb h.lt h.c2⟩
set_option maxRecDepth 100000 in
set_option maxHeartbeats 8000000 in
theorem specProcs (B:Nat) (ps:List (List StepD)) (v:Value) (w:World) (hs:Ep.Small 1048576 ps) (ha:Ep.At w B v ps):
    Calls Tryz.prog 96 #[v] w fun z w'=>z=.returned (.int .i64 (procsC ps))∧Below w.heap.size w w':=by
 obtain ⟨a1,k1,rfl⟩:=ha.slice
 have hl1:=hs.1
 by_cases q1:(ps.length:Int)<1
 ·have HE:=hid (p_many (ps:=ps) (by omega))
  clear hs ha
  go_enter Tryz.func96,Tryz.ntmps96
  go_wp2
  go_ret
  exact ⟨by rw [HE.out];rfl,Below.refl _ _⟩
 by_cases q2:3<(ps.length:Int)
 ·have HE:=hid (p_many (ps:=ps) (by omega))
  clear hs ha
  go_enter Tryz.func96,Tryz.ntmps96
  go_wp2
  go_ret
  exact ⟨by rw [HE.out];rfl,Below.refl _ _⟩
 have HP0:=hid (p_few (ps:=ps) (by omega))
 have HA:=hid ha
 have HS0:=hid hs
 clear ha hs
 go_enter Tryz.func96,Tryz.ntmps96
 go_wp2_with fail
 clear q1 q2
 go_loopw [3,4] (fun x _ wr=>∃k:Nat,x=.int .i64 k∧k≤ps.length∧Hid (procsC ps=firstNZ pFault (ps.drop k))∧Hid (Below w.heap.size w wr)) (fun x _ _=>ps.length - (intOf x).toNat)
 case atStart=>exact ⟨0,rfl,Nat.zero_le _,HP0,hid (Below.refl _ _)⟩
 case round=>
  clear HP0
  obtain ⟨k,rfl,hk,HP,HBR⟩:=hrel
  by_cases hlt:k<ps.length
  ·obtain ⟨g,o,x1,rfl,hg,p0,hst⟩:=(HA.out.below HBR.out).at hlt
   have t1:(k:Int)<(ps.length:Int):=by omega
   obtain ⟨b1,l1,rfl⟩:=hst.slice
   have HC:=hid (Pf.specFault B ps[k] _ wr (HS0.out.at hlt) hst)
   clear hst
   go_wp2_with fail
   refine HC.out.mono ?_
   rintro z w3 ⟨rfl,hb3⟩
   have HB3:=hid (HBR.out.trans (hb3.mono HBR.out.size))
   clear hb3 HC
   by_cases hz:pFault ps[k]=0
   ·have HN:Hid (procsC ps=firstNZ pFault (ps.drop (k+1))):=hid (by rw [HP.out,nz_next hlt hz])
    rw [hz]
    have b0:((0:Int) != 0)=false:=rfl
    clear hz HP
    go_wp2
    exact ⟨⟨k+1,by simp,by omega,HN,HB3⟩,by simp [intOf];omega⟩
   ·have HN:Hid (procsC ps=pFault ps[k]):=hid (by rw [HP.out,nz_bad hlt hz])
    have b0:(pFault ps[k] != 0)=true:=bne_iff_ne.2 hz
    generalize pFault ps[k]=pc at *
    clear hz HP
    go_wp2
    go_ret
    exact ⟨by rw [HN.out];rfl,HB3.out⟩
  ·have HPZ:Hid (procsC ps=0):=hid (by rw [HP.out,nz_end (by omega)])
   clear HP
   go_wp2
   go_ret
   exact ⟨by rw [HPZ.out];rfl,HBR.out⟩
set_option maxRecDepth 100000 in
set_option maxHeartbeats 16000000 in
theorem specFaultAtE (B P:Nat) (e:EngD) (vp vi:Value) (w:World) (hs:En.Small 1048576 e) (ha:En.At w B vp vi e) (hP:EAt w P vp vi e.now):
    Calls Tryz.prog 117 #[.pointer (some ⟨P,0,none⟩)] w fun z w'=>z=.returned (.int .i64 (engC e))∧Below w.heap.size w w':=by
 obtain ⟨a1,k1,rfl⟩:=ha.procs.slice
 obtain ⟨a2,k2,rfl⟩:=ha.insts.slice
 have hl1:=hs.procs.1
 have hl2:=hs.insts.1
 have m0:=hP.c0
 have m1:=hP.c1
 have m2:=hP.c2
 have lP:=hP.lt
 replace m0:w.cell? ⟨P,0,none⟩=some (.slice a1 e.procs.length k1):=m0
 replace m1:w.cell? ⟨P,1,none⟩=some (.slice a2 e.insts.length k2):=m1
 replace m2:w.cell? ⟨P,2,none⟩=some (.int .i64 e.now):=m2
 by_cases q3:6<(e.insts.length:Int)
 ·have HE:=hid (e_many (e:=e) (by omega))
  clear hs ha hP
  go_enter Tryz.func117,Tryz.ntmps117
  go_wp2
  go_ret
  exact ⟨by rw [HE.out];rfl,Below.refl _ _⟩
 have HI0:=hid (show ¬6<e.insts.length by omega)
 have HA:=hid ha
 have HS0:=hid hs
 have HK:=hid hP
 have HC:=hid (specProcs B e.procs _ w hs.procs ha.procs)
 clear ha hs hP
 go_enter Tryz.func117,Tryz.ntmps117
 go_wp2_with fail
 clear q3
 refine HC.out.mono ?_
 rintro z w1 ⟨rfl,hb1⟩
 have HB1:=hid hb1
 have HA1:=hid (HA.out.below hb1)
 have HK1:=hid (HK.out.below hb1)
 clear hb1 m0 m1 m2 lP HC HA HK
 by_cases hz:procsC e.procs=0
 case neg=>
  have HN:Hid (engC e=procsC e.procs):=hid (e_proc HI0.out hz)
  have b0:(procsC e.procs != 0)=true:=bne_iff_ne.2 hz
  generalize procsC e.procs=pc at *
  clear hz
  go_wp2
  go_ret
  exact ⟨by rw [HN.out];rfl,HB1.out⟩
 rw [hz]
 have b0:((0:Int) != 0)=false:=rfl
 have m1:=HK1.out.c1
 have m2:=HK1.out.c2
 have lP:=HK1.out.lt
 replace m1:w1.cell? ⟨P,1,none⟩=some (.slice a2 e.insts.length k2):=m1
 replace m2:w1.cell? ⟨P,2,none⟩=some (.int .i64 e.now):=m2
 have HT:=hid (fun w'=>Ks.specTime e.now w')
 go_wp2_with fail
 refine (HT.out _).mono ?_
 rintro z w2 ⟨rfl,hw2⟩
 replace hw2:=hw2.symm
 subst hw2
 cases hx:inR e.now 0 1000000
 ·have HE:=hid (e_now HI0.out hz hx)
  clear hx hz
  go_wp2
  go_ret
  exact ⟨by rw [HE.out];rfl,HB1.out⟩
 have HE:=hid (e_inst HI0.out hz hx)
 clear hx hz HI0 HT
 go_wp2_with fail
 clear m1 m2 lP
 go_loopw [4,5,6] (fun x _ _ wr=>∃k:Nat,x=.int .i64 k∧k≤e.insts.length∧Hid (engC e=firstNZ (instC e) (e.insts.drop k))∧Hid (Below w1.heap.size w1 wr)) (fun x _ _ _=>e.insts.length - (intOf x).toNat)
 case atStart=>exact ⟨0,rfl,Nat.zero_le _,HE,hid (Below.refl _ _)⟩
 case round=>
  clear HE
  obtain ⟨k,rfl,hk,HE,HBR⟩:=hrel
  have hk1:=HK1.out.below HBR.out
  have m0:=hk1.c0
  have m1:=hk1.c1
  have m2:=hk1.c2
  have lP:=hk1.lt
  replace m0:wr.cell? ⟨P,0,none⟩=some (.slice a1 e.procs.length k1):=m0
  replace m1:wr.cell? ⟨P,1,none⟩=some (.slice a2 e.insts.length k2):=m1
  replace m2:wr.cell? ⟨P,2,none⟩=some (.int .i64 e.now):=m2
  clear hk1
  have HBW:=hid (HB1.out.trans (HBR.out.mono HB1.out.size))
  by_cases hlt:k<e.insts.length
  ·have t1:(k:Int)<(e.insts.length:Int):=by omega
   obtain ⟨g,o,x1,x2,x3,rfl,hg,p0,p1,p2,p3,p4,p5,hc⟩:=(HA1.out.below HBR.out).insts.at hlt
   obtain ⟨b1,l1,rfl⟩:=hc.vars.slice
   obtain ⟨b2,l2,rfl⟩:=hc.marks.slice
   obtain ⟨b3,l3,rfl⟩:=hc.dues.slice
   cases hx:hasP e e.insts[k].proc
   ·have HN:Hid (engC e=3):=hid (by rw [HE.out,nz_bad hlt (by rw [i_range hx];omega),i_range hx])
    have b1:inR e.insts[k].proc 0 ((e.procs.length:Int) - 1)=false:=hx
    clear HE hx hc
    go_wp2
    go_quiet ((go_at_call 118;exact Calls.quiet_of_same (specIn _ _ _ _)))
    go_wp2
    go_ret
    exact ⟨by rw [HN.out];rfl,Nd.below_drewN HBW.out nq⟩
   obtain ⟨hp0,hp1,hp2⟩:=hasP_in hx
   have b1:inR e.insts[k].proc 0 ((e.procs.length:Int) - 1)=true:=hx
   have HCP:Hid (∀wy,Below wr.heap.size wr wy→Ks.CPo wy g (o+k*6+1) _ _ _ e.insts[k].chart):=hid (fun wy hb=>⟨St.old_cell hb hg p1,St.old_cell hb hg p2,St.old_cell hb hg p3,St.old_cell hb hg p4,St.old_cell hb hg p5,(hc.mono (Nat.zero_le _)).below hb⟩)
   clear hc
   go_wp2
   go_quiet ((go_at_call 118;exact Calls.quiet_of_same (specIn _ _ _ _)))
   go_wp2
   obtain ⟨g2,o2,y1,ea,hg2,d0,hst⟩:=(HA1.out.below HBR.out).procs.at hp1
   cases ea
   obtain ⟨s1,s2,rfl⟩:=hst.slice
   have hsm:=HS0.out.procs.at hp1
   have hbn:=Nd.below_drewN (Below.refl wr.heap.size wr) nq
   generalize wr.drewN nq=wn at *
   have HC:=hid (fun wy (hb:Below wr.heap.size wr wy)=>Ks.specChartFaultO B _ _ g (o+k*6+1) e.insts[k].chart _ _ _ wy hsm (HS0.out.insts.at hlt) (hst.below hb) (HCP.out wy hb))
   have HI:Hid (instC e e.insts[k]=if chartC e.procs[e.insts[k].proc.toNat] e.insts[k].chart≠0 then chartC e.procs[e.insts[k].proc.toNat] e.insts[k].chart else if e.insts[k].chart.now=e.now then 0 else 9):=hid (by unfold instC;rw [if_pos hx,stepsD_eq hp1])
   clear hst hsm hx b1 HCP
   generalize hcc:chartC e.procs[e.insts[k].proc.toNat] e.insts[k].chart=cc at *
   generalize e.procs[e.insts[k].proc.toNat]=ss at *
   generalize hpp:e.insts[k].proc=p at *
   clear hpp hcc
   refine wp_region_held_drew (S:=fun wx=>Below wr.heap.size wr wx) (by kernel_rfl) hbn.drew (fun hHeld=>?_)
   refine wpAnyH_take (i:=0) (oi:={ dst:=some 54,op:=Go.Op.move (Go.Operand.tmp 0),type:=108,pos := "l11_engine.go:34",after:=#[],guard:=none }) (v:=.pointer (some ⟨P,0,none⟩)) rfl (by kernel_rfl) (by kernel_rfl) (by kernel_rfl) (fun _ _ _ h=>h) (Or.inl ⟨by rfl,by intro w hSw;(try dsimp only at hSw);go_simp⟩) (by assumption) ?_
   simp only [Act.put,List.setIfInBounds_toArray,List.set_cons_zero,List.set_cons_succ]
   refine wpAnyH_take (i:=1) (oi:={ dst:=some 55,op:=Go.Op.nilCheck (Go.Operand.tmp 54),type:=0,pos := "l11_engine.go:34",after:=#[{ on:=0,ground:=Go.Ground.data }],guard:=none }) (v:=.pointer (some ⟨P,0,none⟩)) rfl (by kernel_rfl) (by kernel_rfl) (by kernel_rfl) (fun _ _ _ h=>h) (Or.inl ⟨by rfl,by intro w hSw;(try dsimp only at hSw);go_simp⟩) (by assumption) ?_
   simp only [Act.put,List.setIfInBounds_toArray,List.set_cons_zero,List.set_cons_succ]
   refine wpAnyH_take (i:=2) (oi:={ dst:=some 56,op:=Go.Op.fieldAddr 27 (Go.Operand.tmp 55) 0,type:=0,pos := "l11_engine.go:34",after:=#[{ on:=1,ground:=Go.Ground.data }],guard:=none }) (v:=.pointer (some ⟨P,0,none⟩)) rfl (by kernel_rfl) (by kernel_rfl) (by kernel_rfl) (fun _ _ _ h=>h) (Or.inl ⟨by rfl,by intro w hSw;(try dsimp only at hSw);go_simp⟩) (by assumption) ?_
   simp only [Act.put,List.setIfInBounds_toArray,List.set_cons_zero,List.set_cons_succ]
   refine wpAnyH_take (i:=3) (oi:={ dst:=some 57,op:=Go.Op.load 24 (Go.Operand.tmp 56),type:=24,pos := "l11_engine.go:34",after:=#[{ on:=2,ground:=Go.Ground.data }],guard:=none }) (v:=.slice (some ⟨g2,o2,none⟩) e.procs.length k1) rfl (by kernel_rfl) (by kernel_rfl) (by kernel_rfl) (fun _ _ _ h=>h) (Or.inl ⟨by rfl,by intro w hSw;(try dsimp only at hSw);have m0:=St.old_cell hSw lP m0;go_simp⟩) (by assumption) ?_
   simp only [Act.put,List.setIfInBounds_toArray,List.set_cons_zero,List.set_cons_succ]
   refine wpAnyH_take (i:=4) (oi:={ dst:=some 58,op:=Go.Op.move (Go.Operand.tmp 5),type:=219,pos := "l11_engine.go:34",after:=#[],guard:=none }) (v:=.pointer (some ⟨g,o+k*6,none⟩)) rfl (by kernel_rfl) (by kernel_rfl) (by kernel_rfl) (fun _ _ _ h=>h) (Or.inl ⟨by rfl,by intro w hSw;(try dsimp only at hSw);go_simp⟩) (by assumption) ?_
   simp only [Act.put,List.setIfInBounds_toArray,List.set_cons_zero,List.set_cons_succ]
   refine wpAnyH_take (i:=5) (oi:={ dst:=some 59,op:=Go.Op.nilCheck (Go.Operand.tmp 58),type:=0,pos := "l11_engine.go:34",after:=#[{ on:=4,ground:=Go.Ground.data }],guard:=none }) (v:=.pointer (some ⟨g,o+k*6,none⟩)) rfl (by kernel_rfl) (by kernel_rfl) (by kernel_rfl) (fun _ _ _ h=>h) (Or.inl ⟨by rfl,by intro w hSw;(try dsimp only at hSw);go_simp⟩) (by assumption) ?_
   simp only [Act.put,List.setIfInBounds_toArray,List.set_cons_zero,List.set_cons_succ]
   refine wpAnyH_take (i:=6) (oi:={ dst:=some 60,op:=Go.Op.fieldAddr 114 (Go.Operand.tmp 59) 0,type:=0,pos := "l11_engine.go:34",after:=#[{ on:=5,ground:=Go.Ground.data }],guard:=none }) (v:=.pointer (some ⟨g,o+k*6,none⟩)) rfl (by kernel_rfl) (by kernel_rfl) (by kernel_rfl) (fun _ _ _ h=>h) (Or.inl ⟨by rfl,by intro w hSw;(try dsimp only at hSw);go_simp⟩) (by assumption) ?_
   simp only [Act.put,List.setIfInBounds_toArray,List.set_cons_zero,List.set_cons_succ]
   refine wpAnyH_take (i:=7) (oi:={ dst:=some 61,op:=Go.Op.load 2 (Go.Operand.tmp 60),type:=2,pos := "l11_engine.go:34",after:=#[{ on:=6,ground:=Go.Ground.data }],guard:=none }) (v:=.int .i64 p) rfl (by kernel_rfl) (by kernel_rfl) (by kernel_rfl) (fun _ _ _ h=>h) (Or.inl ⟨by rfl,by intro w hSw;(try dsimp only at hSw);have p0:=St.old_cell hSw hg p0;go_simp⟩) (by assumption) ?_
   simp only [Act.put,List.setIfInBounds_toArray,List.set_cons_zero,List.set_cons_succ]
   refine wpAnyH_take (i:=8) (oi:={ dst:=some 62,op:=Go.Op.indexAddr 24 (Go.Operand.tmp 57) (Go.Operand.tmp 61),type:=0,pos := "l11_engine.go:34",after:=#[{ on:=3,ground:=Go.Ground.data },{ on:=7,ground:=Go.Ground.data }],guard:=none }) (v:=.pointer (some ⟨g2,o2+p.toNat,none⟩)) rfl (by kernel_rfl) (by kernel_rfl) (by kernel_rfl) (fun _ _ _ h=>h) (Or.inl ⟨by rfl,by intro w hSw;(try dsimp only at hSw);go_simp⟩) (by assumption) ?_
   simp only [Act.put,List.setIfInBounds_toArray,List.set_cons_zero,List.set_cons_succ]
   refine wpAnyH_take (i:=9) (oi:={ dst:=some 63,op:=Go.Op.fieldAddr 89 (Go.Operand.tmp 62) 0,type:=0,pos := "l11_engine.go:34",after:=#[{ on:=8,ground:=Go.Ground.data }],guard:=none }) (v:=.pointer (some ⟨g2,o2+p.toNat,none⟩)) rfl (by kernel_rfl) (by kernel_rfl) (by kernel_rfl) (fun _ _ _ h=>h) (Or.inl ⟨by rfl,by intro w hSw;(try dsimp only at hSw);go_simp⟩) (by assumption) ?_
   simp only [Act.put,List.setIfInBounds_toArray,List.set_cons_zero,List.set_cons_succ]
   refine wpAnyH_take (i:=10) (oi:={ dst:=some 64,op:=Go.Op.load 87 (Go.Operand.tmp 63),type:=87,pos := "l11_engine.go:34",after:=#[{ on:=9,ground:=Go.Ground.data }],guard:=none }) (v:=.slice s1 ss.length s2) rfl (by kernel_rfl) (by kernel_rfl) (by kernel_rfl) (fun _ _ _ h=>h) (Or.inl ⟨by rfl,by intro w hSw;(try dsimp only at hSw);have d0:=St.old_cell hSw hg2 d0;go_simp⟩) (by assumption) ?_
   simp only [Act.put,List.setIfInBounds_toArray,List.set_cons_zero,List.set_cons_succ]
   refine wpAnyH_take (i:=11) (oi:={ dst:=some 65,op:=Go.Op.move (Go.Operand.tmp 5),type:=219,pos := "l11_engine.go:34",after:=#[],guard:=none }) (v:=.pointer (some ⟨g,o+k*6,none⟩)) rfl (by kernel_rfl) (by kernel_rfl) (by kernel_rfl) (fun _ _ _ h=>h) (Or.inl ⟨by rfl,by intro w hSw;(try dsimp only at hSw);go_simp⟩) (by assumption) ?_
   simp only [Act.put,List.setIfInBounds_toArray,List.set_cons_zero,List.set_cons_succ]
   refine wpAnyH_take (i:=12) (oi:={ dst:=some 66,op:=Go.Op.nilCheck (Go.Operand.tmp 65),type:=0,pos := "l11_engine.go:34",after:=#[{ on:=11,ground:=Go.Ground.data }],guard:=none }) (v:=.pointer (some ⟨g,o+k*6,none⟩)) rfl (by kernel_rfl) (by kernel_rfl) (by kernel_rfl) (fun _ _ _ h=>h) (Or.inl ⟨by rfl,by intro w hSw;(try dsimp only at hSw);go_simp⟩) (by assumption) ?_
   simp only [Act.put,List.setIfInBounds_toArray,List.set_cons_zero,List.set_cons_succ]
   refine wpAnyH_take (i:=13) (oi:={ dst:=some 67,op:=Go.Op.fieldAddr 114 (Go.Operand.tmp 66) 1,type:=0,pos := "l11_engine.go:34",after:=#[{ on:=12,ground:=Go.Ground.data }],guard:=none }) (v:=.pointer (some ⟨g,o+k*6+1,none⟩)) rfl (by kernel_rfl) (by kernel_rfl) (by kernel_rfl) (fun _ _ _ h=>h) (Or.inl ⟨by rfl,by intro w hSw;(try dsimp only at hSw);go_simp⟩) (by assumption) ?_
   simp only [Act.put,List.setIfInBounds_toArray,List.set_cons_zero,List.set_cons_succ]
   refine wpAnyH_ready (rs:=[14]) (by kernel_rfl) (by simp) ?_
   refine AllReadyH.cons (o:={ dst:=some 68,op:=Go.Op.call { callee:=Go.Callee.value (Go.Operand.func 156),args:=#[Go.Operand.tmp 64,Go.Operand.tmp 67],argTypes:=#[87,117] },type:=2,pos := "l11_engine.go:34",after:=#[{ on:=10,ground:=Go.Ground.data },{ on:=13,ground:=Go.Ground.data }],guard:=none }) rfl (fun K hK=>?_) AllReadyH.nil
   go_simp
   go_at_call 156
   refine (HC.out _ hbn.drew).mono ?_
   rintro z w3 ⟨rfl,hb3⟩
   have hbb:Below wr.heap.size wr w3:=hbn.drew.trans (hb3.mono hbn.drew.size)
   clear hb3
   go_wp2_with fail
   refine hK.out _ _ hbb (fun hHeld=>?_)
   clear hK K
   try simp only [Act.put,List.setIfInBounds_toArray,List.set_cons_zero,List.set_cons_succ]
   refine wpAnyH_take (i:=15) (oi:={ dst:=some 6,op:=Go.Op.assign (Go.Operand.tmp 68),type:=2,pos := "l11_engine.go:34",after:=#[{ on:=14,ground:=Go.Ground.data },{ on:=14,ground:=Go.Ground.chain },{ on:=0,ground:=Go.Ground.phase },{ on:=1,ground:=Go.Ground.phase },{ on:=2,ground:=Go.Ground.phase },{ on:=3,ground:=Go.Ground.phase },{ on:=4,ground:=Go.Ground.phase },{ on:=5,ground:=Go.Ground.phase },{ on:=6,ground:=Go.Ground.phase },{ on:=7,ground:=Go.Ground.phase },{ on:=8,ground:=Go.Ground.phase },{ on:=9,ground:=Go.Ground.phase },{ on:=10,ground:=Go.Ground.phase },{ on:=11,ground:=Go.Ground.phase },{ on:=12,ground:=Go.Ground.phase },{ on:=13,ground:=Go.Ground.phase },{ on:=14,ground:=Go.Ground.phase }],guard:=none }) (v:=.int .i64 cc) rfl (by kernel_rfl) (by kernel_rfl) (by kernel_rfl) (fun _ _ _ h=>h) (Or.inl ⟨by rfl,by intro w hSw;(try dsimp only at hSw);go_simp⟩) (by assumption) ?_
   simp only [Act.put,List.setIfInBounds_toArray,List.set_cons_zero,List.set_cons_succ]
   refine wpAnyH_done (by kernel_rfl) ?_ _
   have HB3:=hid (HBR.out.trans (hbb.mono HBR.out.size))
   have HBZ:=hid (HB1.out.trans (HB3.out.mono HB1.out.size))
   have q2:=St.old_cell hbb hg p2
   have q0:=St.old_cell hbb lP m2
   have lg:=Nat.lt_of_lt_of_le hg hbb.size
   have lp:=Nat.lt_of_lt_of_le lP hbb.size
   clear hHeld hbb hbn HC m0 m1 m2 p0 p1 p2 p3 p4 p5 d0 hg hg2 HBW HBR lP hp0 hp1 hp2
   by_cases hz:cc=0
   ·subst hz
    have HI2:=HI.out
    rw [if_neg (by simp)] at HI2
    have b0:((0:Int) != 0)=false:=rfl
    by_cases hn:e.insts[k].chart.now=e.now
    ·have HN:Hid (engC e=firstNZ (instC e) (e.insts.drop (k+1))):=hid (by rw [HE.out,nz_next hlt (by rw [HI2,if_pos hn])])
     have b1:(e.insts[k].chart.now != e.now)=false:=by rw [hn];simp
     clear hn HI HI2 HE
     go_wp2
     go_quiet (fail)
     go_wp2
     exact ⟨⟨k+1,by simp,by omega,HN,hid (Nd.below_drewN HB3.out nq)⟩,by simp [intOf];omega⟩
    ·have HN:Hid (engC e=9):=hid (by rw [HE.out,nz_bad hlt (by rw [HI2,if_neg hn];omega),HI2,if_neg hn])
     have b1:(e.insts[k].chart.now != e.now)=true:=bne_iff_ne.2 hn
     clear hn HI HI2 HE
     go_wp2
     go_quiet (fail)
     go_wp2
     go_ret
     exact ⟨by rw [HN.out];rfl,Nd.below_drewN HBZ.out nq⟩
   ·have HN:Hid (engC e=cc):=hid (by rw [HE.out,nz_bad hlt (by rw [HI.out,if_pos hz];exact hz),HI.out,if_pos hz])
    have b0:(cc != 0)=true:=bne_iff_ne.2 hz
    clear hz HI HE
    go_wp2
    go_ret
    exact ⟨by rw [HN.out];rfl,HBZ.out⟩
  ·have HZ:Hid (engC e=0):=hid (by rw [HE.out,nz_end (by omega)])
   clear HE
   go_wp2
   go_ret
   exact ⟨by rw [HZ.out];rfl,HBW.out⟩
end Eg
end Go.Proofs.YtccklgopcjilcaaGreatDoor
