/- Laid together: KfG, KfH, KfJ. -/
import Derived.Test.YtccklgopcjilcaaGreatDoorJCT24
import Derived.ChangeKeysEq
import Derived.Deep.RegionHeld3
/- Whether a chart goes together, asked by the program. -/
namespace Go.Proofs.YtccklgopcjilcaaGreatDoor
open Go.RowKit Go.Deep
set_option linter.unusedVariables false
namespace Kc
open Ex (inR evalCode evalVal vFault hid)
open St (StepD)
open Ch (RunD)
open Pf
theorem kids_at {w:World} {v:Value} {l:List Nat} (h:KidsAt w v l) (h0:0<l.length):∃bk cap,v=.slice (some ⟨bk,0,none⟩) l.length cap∧bk<w.heap.size∧l.length≤cap∧cap≤maxLen∧∀i (h:i<l.length),w.cell? ⟨bk,i,none⟩=some (.int .i64 (l[i]:Int)):=by
 obtain ⟨B,ho⟩:=h
 obtain ⟨_,⟨_,h1⟩ | ⟨g,cap,cur,rfl,hbg,hg,hle,hm,hs,hcur⟩⟩:=ho
 ·omega
 ·refine ⟨g,cap,rfl,(Array.getElem?_eq_some_iff.1 hg).1,by simpa using hle,hm,fun i hi=>?_⟩
  have h2:(Pt.kidVals l)[i]?=some (.int .i64 (l[i]:Int)):=by simp [Pt.kidVals,hi]
  rw [←hcur,List.getElem?_take,if_pos (by omega)] at h2
  simp only [World.cell?,hg,Option.isSome_none,Bool.false_eq_true,if_false]
  simpa using h2
theorem kid24 {ss:List StepD} {j x:Nat} (hl:ss.length≤24) (h:x∈kidsL ss j):x<24:=by have:=(kid_mem.1 h).1;omega
set_option maxRecDepth 100000 in
set_option maxHeartbeats 4000000 in
theorem countKids (wg w:World) (R:Nat) (u:Value) (ss:List StepD) (s:CS) (j:Nat) (hj:j<ss.length) (hl:ss.length≤24) (kv vc ve:Value) (d:Int) (v:Int) (hc:PCells w ss j hj kv vc ve) (h:KAt wg w R u ss s):
    Calls Tryz.prog 200 #[.pointer (some ⟨R,0,none⟩),.agg #[.int .i64 (j:Int),.int .i64 d,kv,.int .i64 ss[j].kind,.int .i64 ss[j].parent,.string ss[j].name,.int .i64 ss[j].arg,vc,ve],.int .i64 v] w fun e w'=>e=.returned (.int .i64 (cntK s.acts (kidsL ss j) v:Int))∧Below w.heap.size w w':=by
 have hks:=hc.kids
 obtain ⟨ak,ck,rfl⟩:=hks.slice
 obtain ⟨ac,cc,rfl⟩:=hc.cond.slice
 obtain ⟨ae,ce,rfl⟩:=hc.expr.slice
 have hin:Hid (∀x∈kidsL ss j,x<24):=hid (fun x hx=>kid24 hl hx)
 have hlen:(kidsL ss j).length≤24:=by have:=kidsN_le ss ss.length j;unfold kidsL;omega
 obtain ⟨w0,e0⟩:∃w0,w0=w.alloc (.cells #[.int .i64 (j:Int),.int .i64 d,.slice ak (kidsL ss j).length ck,.int .i64 ss[j].kind,.int .i64 ss[j].parent,.string ss[j].name,.int .i64 ss[j].arg,.slice ac ss[j].cond.length cc,.slice ae ss[j].expr.length ce] 231):=⟨_,rfl⟩
 have hb0:Below w.heap.size w w0:=by rw [e0];exact (Below.refl _ w).alloc (Nat.le_refl _) _
 have HB0:=hid hb0
 have HK:=hid (h.below hb0)
 have HKS:=hid (hks.below hb0)
 have k2:w0.cell? ⟨w.heap.size,2,none⟩=some (.slice ak (kidsL ss j).length ck):=by rw [e0];exact Ch.blk_cell (Ch.new_blk _ _) 2
 clear hc h hks hb0
 generalize kidsL ss j=ks at *
 go_enter Tryz.func200,Tryz.ntmps200
 go_wp2
 rw [←e0]
 clear e0
 go_loop [7,9,14] (fun c _ x=>∃i:Nat,x=.int .i64 i∧i≤ks.length∧∃m:Nat,c=.int .i64 m∧m≤i∧Hid (m=cntK s.acts (ks.take i) v)) (fun _ _ x=>ks.length - (intOf x).toNat)
 case atStart=>exact ⟨0,rfl,Nat.zero_le _,0,rfl,Nat.le_refl _,hid rfl⟩
 case round=>
  obtain ⟨i,rfl,hi,m,rfl,hm,HM⟩:=hrel
  by_cases hlt:i<ks.length
  ·obtain ⟨bk,cap,e,hbk,_,_,hcell⟩:=kids_at HKS.out (by omega)
   cases e
   have c1:=hcell i hlt
   have hx:=hin.out _ (List.getElem_mem hlt)
   have c2:=HK.out.cA hx
   have q1:(i:Int)<(ks.length:Int):=by omega
   have q2:(0:Int)≤(ks[i]:Int):=by omega
   have q3:(ks[i]:Int)<24:=by omega
   have HN:Hid (cntK s.acts (ks.take (i+1)) v=cntK s.acts (ks.take i) v+if s.acts ks[i]=v then 1 else 0):=hid (by rw [List.take_succ_eq_append_getElem hlt,cntK_snoc])
   clear hcell
   generalize ks[i]=x at *
   by_cases hv:s.acts x=v
   ·have b1:(s.acts x==v)=true:=by simp [hv]
    have HX:Hid (m+1=cntK s.acts (ks.take (i+1)) v):=hid (by rw [HN.out,HM.out,if_pos hv])
    clear hv HN HM
    go_wp2
    exact ⟨⟨i+1,by simp,by omega,m+1,by simp,by omega,HX⟩,by simp [intOf];omega⟩
   ·have b1:(s.acts x==v)=false:=by simp [hv]
    have HX:Hid (m=cntK s.acts (ks.take (i+1)) v):=hid (by rw [HN.out,HM.out,if_neg hv];rfl)
    clear hv HN HM
    go_wp2
    exact ⟨⟨i+1,by simp,by omega,m,rfl,by omega,HX⟩,by simp [intOf];omega⟩
  ·have q1:¬(i:Int)<(ks.length:Int):=by omega
   have HX:Hid (m=cntK s.acts ks v):=hid (by have:=HM.out;rwa [List.take_of_length_le (by omega)] at this)
   clear HM
   go_wp2
   go_ret
   exact ⟨by rw [←HX.out];rfl,HB0.out⟩
end Kc
end Go.Proofs.YtccklgopcjilcaaGreatDoor
/- Whether a chart goes together, asked by the program. -/
namespace Go.Proofs.YtccklgopcjilcaaGreatDoor
open Go.RowKit Go.Deep
set_option linter.unusedVariables false
set_option linter.unusedSimpArgs false
namespace Kc
open Ex (inR evalCode evalVal vFault hid)
open St (StepD)
open Ch (RunD)
open Pf
def PBlk (w:World) (b:Nat) (cs:Array Value):Prop:=w.heap[b]?=some (.cells cs 231)
theorem PBlk.below {w w':World} {b:Nat} {cs:Array Value} (h:PBlk w b cs) (hb:Below w.heap.size w w'):PBlk w' b cs:=(hb.block b (Ch.blk_lt h)).trans h
theorem PBlk.drew {w:World} {b:Nat} {cs:Array Value} (h:PBlk w b cs):PBlk w.drew b cs:=h
theorem PBlk.cell {w:World} {b:Nat} {cs:Array Value} (h:PBlk w b cs) (i:Nat):w.cell? ⟨b,i,none⟩=cs[i]?:=Ch.blk_cell h i
set_option maxRecDepth 100000 in
set_option maxHeartbeats 8000000 in
theorem hasRightKids (wg w:World) (R:Nat) (u:Value) (ss:List StepD) (s:CS) (j:Nat) (hj:j<ss.length) (hl:ss.length≤24) (kv vc ve:Value) (d:Int) (hc:PCells w ss j hj kv vc ve) (h:KAt wg w R u ss s):
    Calls Tryz.prog 166 #[.pointer (some ⟨R,0,none⟩),.agg #[.int .i64 (j:Int),.int .i64 d,kv,.int .i64 ss[j].kind,.int .i64 ss[j].parent,.string ss[j].name,.int .i64 ss[j].arg,vc,ve]] w fun e w'=>e=.returned (.bool (rightKids ss s.acts j))∧Below w.heap.size w w':=by
 have HC:Hid (∀(v:Int) wx,Below w.heap.size w wx→Calls Tryz.prog 200 #[.pointer (some ⟨R,0,none⟩),.agg #[.int .i64 (j:Int),.int .i64 d,kv,.int .i64 ss[j].kind,.int .i64 ss[j].parent,.string ss[j].name,.int .i64 ss[j].arg,vc,ve],.int .i64 v] wx fun e w'=>e=.returned (.int .i64 (cntK s.acts (kidsL ss j) v:Int))∧Below wx.heap.size wx w'):=hid (fun v wx hb=>countKids wg wx R u ss s j hj hl kv vc ve d v (hc.below hb) (h.below hb))
 have HO:Hid (∀wx,Below w.heap.size w wx→Calls Tryz.prog 165 #[.pointer (some ⟨R,0,none⟩),.int .i64 (j:Int)] wx fun e w'=>e=.returned (.bool (s.acts j==1))∧w'=wx):=hid (fun wx hb=>isOn wg wx R u ss s j (by omega) (h.below hb))
 obtain ⟨ak,ck,rfl⟩:=hc.kids.slice
 obtain ⟨ac,cc,rfl⟩:=hc.cond.slice
 obtain ⟨ae,ce,rfl⟩:=hc.expr.slice
 have hlen:(kidsL ss j).length≤24:=by have:=kidsN_le ss ss.length j;unfold kidsL;omega
 have ho1:=cntK_le s.acts (kidsL ss j) 1
 have ho2:=cntK_le s.acts (kidsL ss j) 2
 have HV:Hid (rightKids ss s.acts j=if (kidsL ss j).length=0 then true else if s.acts j≠1 then (cntK s.acts (kidsL ss j) 1==0)&&(cntK s.acts (kidsL ss j) 2==0) else if ss[j].kind=4 then decide (0<cntK s.acts (kidsL ss j) 1)&&(cntK s.acts (kidsL ss j) 1+cntK s.acts (kidsL ss j) 2==(kidsL ss j).length) else (cntK s.acts (kidsL ss j) 1==1)&&(cntK s.acts (kidsL ss j) 2==0)):=hid (by unfold rightKids;rw [PJ_eq hj])
 obtain ⟨w0,e0⟩:∃w0,w0=w.alloc (.cells #[.int .i64 (j:Int),.int .i64 d,.slice ak (kidsL ss j).length ck,.int .i64 ss[j].kind,.int .i64 ss[j].parent,.string ss[j].name,.int .i64 ss[j].arg,.slice ac ss[j].cond.length cc,.slice ae ss[j].expr.length ce] 231):=⟨_,rfl⟩
 have hb0:Below w.heap.size w w0:=by rw [e0];exact (Below.refl _ w).alloc (Nat.le_refl _) _
 have hk0:PBlk w0 w.heap.size #[.int .i64 (j:Int),.int .i64 d,.slice ak (kidsL ss j).length ck,.int .i64 ss[j].kind,.int .i64 ss[j].parent,.string ss[j].name,.int .i64 ss[j].arg,.slice ac ss[j].cond.length cc,.slice ae ss[j].expr.length ce]:=by rw [e0];exact Ch.new_blk _ _
 have HK0d:Hid (PBlk w0.drew w.heap.size #[.int .i64 (j:Int),.int .i64 d,.slice ak (kidsL ss j).length ck,.int .i64 ss[j].kind,.int .i64 ss[j].parent,.string ss[j].name,.int .i64 ss[j].arg,.slice ac ss[j].cond.length cc,.slice ae ss[j].expr.length ce]):=hid hk0.drew
 have hB0:=hb0.drew
 clear hc h hk0 hb0
 generalize rightKids ss s.acts j=res at *
 go_enter Tryz.func166,Tryz.ntmps166
 go_wp2
 rw [←e0]
 clear e0
 refine wp_region_held_drew (S:=fun wx=>PBlk wx w.heap.size #[.int .i64 (j:Int),.int .i64 d,.slice ak (kidsL ss j).length ck,.int .i64 ss[j].kind,.int .i64 ss[j].parent,.string ss[j].name,.int .i64 ss[j].arg,.slice ac ss[j].cond.length cc,.slice ae ss[j].expr.length ce]) (by kernel_rfl) HK0d.out (fun hHeld=>?_)
 refine wpAnyH_take (i:=0) (v:=.pointer (some ⟨R,0,none⟩)) rfl (by kernel_rfl) (by kernel_rfl) (by kernel_rfl) (fun _ _ _ h=>h) (Or.inl ⟨by rfl,by intro w hSw;(try dsimp only at hSw);go_simp⟩) (by assumption) ?_
 simp only [Act.put,List.setIfInBounds_toArray,List.set_cons_zero,List.set_cons_succ]
 refine wpAnyH_take (i:=1) (v:=.agg #[.int .i64 (j:Int),.int .i64 d,.slice ak (kidsL ss j).length ck,.int .i64 ss[j].kind,.int .i64 ss[j].parent,.string ss[j].name,.int .i64 ss[j].arg,.slice ac ss[j].cond.length cc,.slice ae ss[j].expr.length ce]) rfl (by kernel_rfl) (by kernel_rfl) (by kernel_rfl) (fun _ _ _ h=>h) (Or.inl ⟨by rfl,by intro w hSw;(try dsimp only at hSw);have m:=fun i=>PBlk.cell hSw i;have m0:=m 0;have m1:=m 1;have m2:=m 2;have m3:=m 3;have m4:=m 4;have m5:=m 5;have m6:=m 6;have m7:=m 7;have m8:=m 8;clear m hSw;go_simp⟩) (by assumption) ?_
 simp only [Act.put,List.setIfInBounds_toArray,List.set_cons_zero,List.set_cons_succ]
 refine wpAnyH_take (i:=3) (v:=.pointer (some ⟨R,0,none⟩)) rfl (by kernel_rfl) (by kernel_rfl) (by kernel_rfl) (fun _ _ _ h=>h) (Or.inl ⟨by rfl,by intro w hSw;(try dsimp only at hSw);go_simp⟩) (by assumption) ?_
 simp only [Act.put,List.setIfInBounds_toArray,List.set_cons_zero,List.set_cons_succ]
 refine wpAnyH_take (i:=4) (v:=.agg #[.int .i64 (j:Int),.int .i64 d,.slice ak (kidsL ss j).length ck,.int .i64 ss[j].kind,.int .i64 ss[j].parent,.string ss[j].name,.int .i64 ss[j].arg,.slice ac ss[j].cond.length cc,.slice ae ss[j].expr.length ce]) rfl (by kernel_rfl) (by kernel_rfl) (by kernel_rfl) (fun _ _ _ h=>h) (Or.inl ⟨by rfl,by intro w hSw;(try dsimp only at hSw);have m:=fun i=>PBlk.cell hSw i;have m0:=m 0;have m1:=m 1;have m2:=m 2;have m3:=m 3;have m4:=m 4;have m5:=m 5;have m6:=m 6;have m7:=m 7;have m8:=m 8;clear m hSw;go_simp⟩) (by assumption) ?_
 simp only [Act.put,List.setIfInBounds_toArray,List.set_cons_zero,List.set_cons_succ]
 refine wpAnyH_ready (rs:=[2]) (by kernel_rfl) (by simp) ?_
 refine AllReadyH.cons rfl (fun K hK=>?_) AllReadyH.nil
 go_simp
 go_at_call 200
 refine (HC.out 1 _ hB0).mono ?_
 rintro e w1 ⟨rfl,hb1⟩
 have hB1:=hB0.trans (hb1.mono hB0.size)
 have HK1:=hid (HK0d.out.below hb1)
 clear hb1
 go_wp2_with fail
 refine hK.out _ _ HK1.out (fun hHeld=>?_)
 clear hK K
 try simp only [Act.put,List.setIfInBounds_toArray,List.set_cons_zero,List.set_cons_succ]
 refine wpAnyH_ready (rs:=[5]) (by kernel_rfl) (by simp) ?_
 refine AllReadyH.cons rfl (fun K hK=>?_) AllReadyH.nil
 go_simp
 go_at_call 200
 refine (HC.out 2 _ hB1).mono ?_
 rintro e w2 ⟨rfl,hb2⟩
 have hB2:=hB1.trans (hb2.mono hB1.size)
 have HK2:=hid (HK1.out.below hb2)
 clear hb2
 go_wp2_with fail
 refine hK.out _ _ HK2.out (fun hHeld=>?_)
 clear hK K
 try simp only [Act.put,List.setIfInBounds_toArray,List.set_cons_zero,List.set_cons_succ]
 refine wpAnyH_take (i:=6) (v:=.int .i64 (cntK s.acts (kidsL ss j) 1:Int)) rfl (by kernel_rfl) (by kernel_rfl) (by kernel_rfl) (fun _ _ _ h=>h) (Or.inl ⟨by rfl,by intro w hSw;(try dsimp only at hSw);go_simp⟩) (by assumption) ?_
 simp only [Act.put,List.setIfInBounds_toArray,List.set_cons_zero,List.set_cons_succ]
 refine wpAnyH_take (i:=7) (v:=.int .i64 (cntK s.acts (kidsL ss j) 2:Int)) rfl (by kernel_rfl) (by kernel_rfl) (by kernel_rfl) (fun _ _ _ h=>h) (Or.inl ⟨by rfl,by intro w hSw;(try dsimp only at hSw);go_simp⟩) (by assumption) ?_
 simp only [Act.put,List.setIfInBounds_toArray,List.set_cons_zero,List.set_cons_succ]
 refine wpAnyH_done (by kernel_rfl) ?_ _
 clear HC HK0d HK1
 have d0:w2.cell? ⟨w.heap.size,0,none⟩=_:=HK2.out.cell 0
 have d2:w2.cell? ⟨w.heap.size,2,none⟩=_:=HK2.out.cell 2
 have d3:w2.cell? ⟨w.heap.size,3,none⟩=_:=HK2.out.cell 3
 have HON:=hid (HO.out _ hB2)
 clear HK2 HO hHeld hB0 hB1
 generalize cntK s.acts (kidsL ss j) 1=on at *
 generalize cntK s.acts (kidsL ss j) 2=ov at *
 generalize (kidsL ss j).length=n at *
 by_cases h0:n=0
 ·have b0:((n:Int)==0)=true:=by simp [h0]
  have HX:Hid (res=true):=hid (by rw [HV.out,if_pos h0])
  clear HV h0
  go_wp2
  go_ret
  exact ⟨by rw [HX.out];rfl,hB2⟩
 have b0:((n:Int)==0)=false:=by simp [h0]
 rw [if_neg h0] at HV
 clear h0
 by_cases h1:s.acts j=1
 ·have e1:(s.acts j==1)=true:=by simp [h1]
  rw [e1] at HON
  rw [if_neg (by simp [h1])] at HV
  clear e1 h1
  by_cases h4:ss[j].kind=4
  ·have b4:(ss[j].kind==4)=true:=by simp [h4]
   rw [if_pos h4] at HV
   clear h4
   by_cases hp:0<on
   ·have q1:(0:Int)<(on:Int):=by omega
    have HX:Hid (res=(((on:Int)+(ov:Int))==(n:Int))):=hid (by
     rw [HV.out,decide_eq_true hp,Bool.true_and,Bool.eq_iff_iff]
     simp
     omega)
    clear HV hp
    go_wp2_with (go_at_call 165;refine HON.out.mono ?_;rintro e w3 ⟨rfl,hw3⟩;replace hw3:=hw3.symm;subst hw3)
    go_ret
    exact ⟨by rw [HX.out];rfl,hB2⟩
   ·have q1:¬(0:Int)<(on:Int):=by omega
    have HX:Hid (res=false):=hid (by rw [HV.out,decide_eq_false hp];rfl)
    clear HV hp
    go_wp2_with (go_at_call 165;refine HON.out.mono ?_;rintro e w3 ⟨rfl,hw3⟩;replace hw3:=hw3.symm;subst hw3)
    go_ret
    exact ⟨by rw [HX.out];rfl,hB2⟩
  ·have b4:(ss[j].kind==4)=false:=by simp [h4]
   rw [if_neg h4] at HV
   clear h4
   by_cases hp:on=1
   ·have q1:((on:Int)==1)=true:=by simp [hp]
    have HX:Hid (res=((ov:Int)==0)):=hid (by rw [HV.out,hp,Bool.eq_iff_iff];simp)
    clear HV hp
    go_wp2_with (go_at_call 165;refine HON.out.mono ?_;rintro e w3 ⟨rfl,hw3⟩;replace hw3:=hw3.symm;subst hw3)
    go_ret
    exact ⟨by rw [HX.out];rfl,hB2⟩
   ·have q1:((on:Int)==1)=false:=beq_eq_false_iff_ne.2 (by omega)
    have HX:Hid (res=false):=hid (by rw [HV.out,beq_eq_false_iff_ne.2 hp];rfl)
    clear HV hp
    go_wp2_with (go_at_call 165;refine HON.out.mono ?_;rintro e w3 ⟨rfl,hw3⟩;replace hw3:=hw3.symm;subst hw3)
    go_ret
    exact ⟨by rw [HX.out];rfl,hB2⟩
 ·have e1:(s.acts j==1)=false:=by simp [h1]
  rw [e1] at HON
  rw [if_pos h1] at HV
  clear e1 h1
  by_cases hp:on=0
  ·have q1:((on:Int)==0)=true:=by simp [hp]
   have HX:Hid (res=((ov:Int)==0)):=hid (by rw [HV.out,hp,Bool.eq_iff_iff];simp)
   clear HV hp
   go_wp2_with (go_at_call 165;refine HON.out.mono ?_;rintro e w3 ⟨rfl,hw3⟩;replace hw3:=hw3.symm;subst hw3)
   go_ret
   exact ⟨by rw [HX.out];rfl,hB2⟩
  ·have q1:((on:Int)==0)=false:=beq_eq_false_iff_ne.2 (by omega)
   have HX:Hid (res=false):=hid (by rw [HV.out,beq_eq_false_iff_ne.2 hp];rfl)
   clear HV hp
   go_wp2_with (go_at_call 165;refine HON.out.mono ?_;rintro e w3 ⟨rfl,hw3⟩;replace hw3:=hw3.symm;subst hw3)
   go_ret
   exact ⟨by rw [HX.out];rfl,hB2⟩
end Kc
end Go.Proofs.YtccklgopcjilcaaGreatDoor
/- Whether a chart goes together, asked by the program. -/
namespace Go.Proofs.YtccklgopcjilcaaGreatDoor
open Go.RowKit Go.Deep
set_option linter.unusedVariables false
set_option linter.unusedSimpArgs false
namespace Kc
open Ex (inR evalCode evalVal vFault hid)
open St (StepD)
open Ch (RunD)
open Pf
set_option maxRecDepth 100000 in
set_option maxHeartbeats 8000000 in
theorem hasRightDue (wg w:World) (R:Nat) (u:Value) (ss:List StepD) (s:CS) (j:Nat) (hj:j<ss.length) (hp:pFault ss=0) (kv vc ve:Value) (d:Int) (hc:PCells w ss j hj kv vc ve) (h:KAt wg w R u ss s):
    Calls Tryz.prog 167 #[.pointer (some ⟨R,0,none⟩),.agg #[.int .i64 (j:Int),.int .i64 d,kv,.int .i64 ss[j].kind,.int .i64 ss[j].parent,.string ss[j].name,.int .i64 ss[j].arg,vc,ve]] w fun e w'=>e=.returned (.bool (rightDue ss s.acts s.dues j))∧Below w.heap.size w w':=by
 have hl:ss.length≤24:=by have:=(of_p hp).1;omega
 have HO:Hid (∀(k:Nat) wx,k<24→Below w.heap.size w wx→Calls Tryz.prog 165 #[.pointer (some ⟨R,0,none⟩),.int .i64 (k:Int)] wx fun e w'=>e=.returned (.bool (s.acts k==1))∧w'=wx):=hid (fun k wx hk hb=>isOn wg wx R u ss s k hk (h.below hb))
 have hks:=hc.kids
 obtain ⟨ak,ck,rfl⟩:=hc.kids.slice
 obtain ⟨ac,cc,rfl⟩:=hc.cond.slice
 obtain ⟨ae,ce,rfl⟩:=hc.expr.slice
 have HG:=hid (kids_guard hp hj)
 have HKI:=hid (fun (hh:0<(kidsL ss j).length)=>kid24 hl (kid_in hh))
 have HV:Hid (rightDue ss s.acts s.dues j=if ss[j].kind=6 then (s.dues j != 0)==(s.acts j==1) else if ss[j].kind=8 then (s.dues j != 0)==(s.acts (kid ss j 0)==1) else !(s.dues j != 0)):=hid (by unfold rightDue;rw [PJ_eq hj])
 rw [PJ_eq hj] at HG
 obtain ⟨w0,e0⟩:∃w0,w0=w.alloc (.cells #[.int .i64 (j:Int),.int .i64 d,.slice ak (kidsL ss j).length ck,.int .i64 ss[j].kind,.int .i64 ss[j].parent,.string ss[j].name,.int .i64 ss[j].arg,.slice ac ss[j].cond.length cc,.slice ae ss[j].expr.length ce] 231):=⟨_,rfl⟩
 have hb0:Below w.heap.size w w0:=by rw [e0];exact (Below.refl _ w).alloc (Nat.le_refl _) _
 have hk0:PBlk w0 w.heap.size #[.int .i64 (j:Int),.int .i64 d,.slice ak (kidsL ss j).length ck,.int .i64 ss[j].kind,.int .i64 ss[j].parent,.string ss[j].name,.int .i64 ss[j].arg,.slice ac ss[j].cond.length cc,.slice ae ss[j].expr.length ce]:=by rw [e0];exact Ch.new_blk _ _
 have HKS:=hid (hks.below hb0)
 have d0:w0.cell? ⟨w.heap.size,0,none⟩=_:=hk0.cell 0
 have d2:w0.cell? ⟨w.heap.size,2,none⟩=_:=hk0.cell 2
 have d3:w0.cell? ⟨w.heap.size,3,none⟩=_:=hk0.cell 3
 have cd:=(h.below hb0).cD (i:=j) (by omega)
 have q1:(0:Int)≤(j:Int):=by omega
 have q2:(j:Int)<24:=by omega
 have hB0:=hb0.drew
 clear hc h hk0 hb0 hks
 generalize rightDue ss s.acts s.dues j=res at *
 go_enter Tryz.func167,Tryz.ntmps167
 go_wp2
 rw [←e0]
 clear e0
 go_region
 by_cases h6:ss[j].kind=6
 ·have b6:(ss[j].kind==6)=true:=by simp [h6]
  rw [if_pos h6] at HV
  have HON:=hid (HO.out j _ (by omega) hB0)
  clear h6 HO HG HKI
  go_wp2_with (go_at_call 165;refine HON.out.mono ?_;rintro e w3 ⟨rfl,hw3⟩;replace hw3:=hw3.symm;subst hw3)
  go_ret
  exact ⟨by rw [HV.out];rfl,hB0⟩
 ·have b6:(ss[j].kind==6)=false:=by simp [h6]
  rw [if_neg h6] at HV
  clear h6
  by_cases h8:ss[j].kind=8
  ·have b8:(ss[j].kind==8)=true:=by simp [h8]
   rw [if_pos h8] at HV
   have h2:=HG.out h8
   obtain ⟨bk,cap,e,hbk,_,_,hcell⟩:=kids_at HKS.out (by omega)
   cases e
   have c0:=hcell 0 (by omega)
   have hk24:=HKI.out (by omega)
   have ek:kid ss j 0=(kidsL ss j)[0]'(by omega):=by unfold kid;rw [List.getD_eq_getElem?_getD,List.getElem?_eq_getElem (by omega)];rfl
   rw [←ek] at c0
   have q3:(0:Int)<((kidsL ss j).length:Int):=by omega
   have HON:=hid (HO.out (kid ss j 0) _ hk24 hB0)
   clear hcell ek h2 h8 HO HG HKI HKS
   generalize kid ss j 0=k0 at *
   go_wp2_with (go_at_call 165;refine HON.out.mono ?_;rintro e w3 ⟨rfl,hw3⟩;replace hw3:=hw3.symm;subst hw3)
   go_ret
   exact ⟨by rw [HV.out];rfl,hB0⟩
  ·have b8:(ss[j].kind==8)=false:=by simp [h8]
   rw [if_neg h8] at HV
   clear h8 HO HG HKI
   go_wp2
   go_ret
   exact ⟨by rw [HV.out];rfl,hB0⟩
end Kc
end Go.Proofs.YtccklgopcjilcaaGreatDoor
