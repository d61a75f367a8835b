/- Laid together: PiE, PqA. -/
import Derived.Test.YtccklgopcjilcaaGreatDoorJCT21
import Derived.Test.YtccklgopcjilcaaGreatDoorJCT18
/- ProcFault of the program, and the steps with their places. Condition: the table of rules lies as its initialiser lays it. -/
namespace Go.Proofs.YtccklgopcjilcaaGreatDoor
open Go.RowKit
set_option linter.unusedVariables false
namespace Pf
open Ex (hid inR eFault typeCode typeVal implExprFault implTypeOf)
open Nd (NodeD)
open St (StepD)
open Tr (Chain cutTo onPath top nf ElemD)
open Pt (TreeAt Br flat)
set_option maxRecDepth 100000 in
set_option maxHeartbeats 8000000 in
theorem needsCond (ss:List StepD) (u:Value) (j:Nat) (kv vc ve:Value) (w:World) (hl:ss.length≤24) (hj:j<ss.length) (h1:oneC ss j=0) (hp:PAt w ss u) (hs:(∃a n c,kv=.slice a n c)∧(∃a n c,vc=.slice a n c)∧(∃a n c,ve=.slice a n c)):
    Calls Tryz.prog 196 #[u,.agg #[.int .i64 (j:Int),.int .i64 ((path ss (j+1)).length:Int),kv,.int .i64 ss[j].kind,.int .i64 ss[j].parent,.string ss[j].name,.int .i64 ss[j].arg,vc,ve]] w fun e w'=>e=.returned (.bool (needs ss j))∧Below w.heap.size w w':=by
 obtain ⟨⟨ak,nk,ck,rfl⟩,⟨ac,nc,cc,rfl⟩,⟨ae,ne,ce,rfl⟩⟩:=hs
 obtain ⟨hp1,hp2⟩:=par_lt h1
 have hpj:PJ ss j=ss[j]:=PJ_eq hj
 have hB:Below w.heap.size w (w.alloc (.cells #[.int .i64 (j:Int),.int .i64 ((path ss (j+1)).length:Int),.slice ak nk ck,.int .i64 ss[j].kind,.int .i64 ss[j].parent,.string ss[j].name,.int .i64 ss[j].arg,.slice ac nc cc,.slice ae ne ce] 231)):=(Below.refl _ w).alloc (Nat.le_refl _) _
 have HP:=hid (hp.below hB)
 obtain ⟨g0,cap0,rfl,hg0,_⟩:=hp
 rw [hpj] at hp1 hp2
 by_cases hm:ss[j].parent=-1
 ·have HV:Hid (needs ss j=false):=hid (by unfold needs;rw [hpj,hm];rfl)
  have b1:(ss[j].parent==-1)=true:=beq_iff_eq.2 hm
  clear hm h1
  go_enter Tryz.func196,Tryz.ntmps196
  go_wp2
  go_ret
  exact ⟨by rw [HV.out];rfl,hB⟩
 ·have b1:(ss[j].parent==-1)=false:=beq_eq_false_iff_ne.2 hm
  obtain ⟨p,hpp⟩:∃p:Nat,ss[j].parent=(p:Int):=⟨ss[j].parent.toNat,by omega⟩
  have hpl:p<ss.length:=by omega
  have HN:Hid (needs ss j=((ss[p].kind==3)&&!lastIs (kidsL ss p) j)):=hid (by
   unfold needs
   rw [hpj,hpp,Int.toNat_natCast,PJ_eq hpl]
   have:(0:Int)≤(p:Int):=by omega
   simp [this])
  have hkl:(kidsL ss p).length≤24:=by have:=kidsN_le ss ss.length p;unfold kidsL;omega
  have q3:(p:Int)<(ss.length:Int):=by omega
  obtain ⟨g,cap,e',hg,hc⟩:=HP.out
  cases e'
  obtain ⟨kv,vc,ve,d0,d1,d2,d3,d4,d5,d6,d7,d8,hpc⟩:=hc p hpl
  obtain ⟨ak2,ck2,rfl⟩:=hpc.kids.slice
  obtain ⟨ac2,cc2,rfl⟩:=hpc.cond.slice
  obtain ⟨ae2,ce2,rfl⟩:=hpc.expr.slice
  have HKD:=hid hpc.kids
  have HB:=hid hB
  rw [hpp] at *
  clear hc hpc hm hp1 hp2 hpp hpj h1 hB HP
  generalize (path ss (p+1)).length=dpp at *
  generalize (path ss (j+1)).length=dpj at *
  have hzA:(w.alloc (.cells #[.int .i64 (j:Int),.int .i64 (dpj:Int),.slice ak nk ck,.int .i64 ss[j].kind,.int .i64 (p:Int),.string ss[j].name,.int .i64 ss[j].arg,.slice ac nc cc,.slice ae ne ce] 231)).heap.size=w.heap.size+1:=by simp
  have hxB:Below (w.heap.size+1) (w.alloc (.cells #[.int .i64 (j:Int),.int .i64 (dpj:Int),.slice ak nk ck,.int .i64 ss[j].kind,.int .i64 (p:Int),.string ss[j].name,.int .i64 ss[j].arg,.slice ac nc cc,.slice ae ne ce] 231)) ((w.alloc (.cells #[.int .i64 (j:Int),.int .i64 (dpj:Int),.slice ak nk ck,.int .i64 ss[j].kind,.int .i64 (p:Int),.string ss[j].name,.int .i64 ss[j].arg,.slice ac nc cc,.slice ae ne ce] 231)).alloc (.cells #[.int .i64 (p:Int),.int .i64 (dpp:Int),.slice ak2 (kidsL ss p).length ck2,.int .i64 ss[p].kind,.int .i64 ss[p].parent,.string ss[p].name,.int .i64 ss[p].arg,.slice ac2 ss[p].cond.length cc2,.slice ae2 ss[p].expr.length ce2] 231)):=(Below.refl _ _).alloc (Nat.le_of_eq hzA.symm) _
  have HK2:=hid (HKD.out.below (by rw [hzA];exact hxB))
  have HB2:=hid (HB.out.trans (hxB.mono (by omega)))
  clear hxB HKD
  cases hk:(ss[p].kind==3)
  ·have HV:Hid (needs ss j=false):=hid (by rw [HN.out,hk];rfl)
   go_enter Tryz.func196,Tryz.ntmps196
   go_wp2
   go_ret
   exact ⟨by rw [HV.out];rfl,HB2.out⟩
  ·have HV:Hid (needs ss j=!lastIs (kidsL ss p) j):=hid (by rw [HN.out,hk];rfl)
   have HL:=hid (hasLastKid (p:Int) (dpp:Int) _ (kidsL ss p) j _ hkl HK2.out)
   go_enter Tryz.func196,Tryz.ntmps196
   go_wp2_with fail
   refine HL.out.mono ?_
   rintro e w1 ⟨rfl,hb1⟩
   have hB3:=HB2.out.trans (hb1.mono HB2.out.size)
   clear HL HK2
   go_wp2
   go_ret
   exact ⟨by rw [HV.out];rfl,hB3⟩
set_option maxRecDepth 100000 in
set_option maxHeartbeats 16000000 in
theorem linksFault (ss:List StepD) (u:Value) (j:Nat) (kv vc ve:Value) (w:World) (hl:ss.length≤24) (hsm:St.Small 1048576 ss) (hj:j<ss.length) (h1:oneC ss j=0) (hp:PAt w ss u) (hc:PCells w ss j hj kv vc ve) (hr:Rul w):
    Calls Tryz.prog 161 #[u,.agg #[.int .i64 (j:Int),.int .i64 ((path ss (j+1)).length:Int),kv,.int .i64 ss[j].kind,.int .i64 ss[j].parent,.string ss[j].name,.int .i64 ss[j].arg,vc,ve]] w fun e w'=>e=.returned (.int .i64 (linkC ss j))∧Below w.heap.size w w':=by
 obtain ⟨ak,ck,rfl⟩:=hc.kids.slice
 obtain ⟨ac,cc,rfl⟩:=hc.cond.slice
 obtain ⟨ae,ce,rfl⟩:=hc.expr.slice
 have hpj:PJ ss j=ss[j]:=PJ_eq hj
 have hk:inR ss[j].kind 1 8=true:=by
  have h:=(of_one h1).1
  rw [hpj] at h
  unfold formOk at h
  simp only [Bool.and_eq_true] at h
  exact h.1
 have hgl:=hr.lt
 have hsj:=hsm.at hj
 have sc:=hsj.2.1
 have hkl:(kidsL ss j).length≤24:=by have:=kidsN_le ss ss.length j;unfold kidsL;omega
 have HM:=hid (many_eq hk hkl)
 have HV1:=hid (link_many (ss:=ss) (i:=j))
 have HV2:=hid (link_need (ss:=ss) (i:=j))
 have HV3:=hid (link_cond (ss:=ss) (i:=j))
 have HV4:=hid (link_ok (ss:=ss) (i:=j))
 rw [hpj] at HV1 HV2 HV3 HV4
 have hBA:Below w.heap.size w (w.alloc (.cells #[.int .i64 (j:Int),.int .i64 ((path ss (j+1)).length:Int),.slice ak (kidsL ss j).length ck,.int .i64 ss[j].kind,.int .i64 ss[j].parent,.string ss[j].name,.int .i64 ss[j].arg,.slice ac ss[j].cond.length cc,.slice ae ss[j].expr.length ce] 231)):=(Below.refl _ w).alloc (Nat.le_refl _) _
 have HBA:=hid hBA
 have HRU:=hid (ruleOk ss[j].kind _ hk (hr.below hBA hgl))
 have HND:Hid (∀wx,Below w.heap.size w wx→Calls Tryz.prog 196 #[u,.agg #[.int .i64 (j:Int),.int .i64 ((path ss (j+1)).length:Int),.slice ak (kidsL ss j).length ck,.int .i64 ss[j].kind,.int .i64 ss[j].parent,.string ss[j].name,.int .i64 ss[j].arg,.slice ac ss[j].cond.length cc,.slice ae ss[j].expr.length ce]] wx fun e w'=>e=.returned (.bool (needs ss j))∧Below wx.heap.size wx w'):=hid (fun wx hb=>needsCond ss u j _ _ _ wx hl hj h1 (hp.below hb) ⟨⟨_,_,_,rfl⟩,⟨_,_,_,rfl⟩,⟨_,_,_,rfl⟩⟩)
 have HEX:Hid (∀wx,Below w.heap.size w wx→Calls Tryz.prog 197 #[.slice ac ss[j].cond.length cc] wx fun e w'=>e=.returned (.int .i64 (eFault ss[j].cond))∧Below wx.heap.size wx w'):=hid (fun wx hb=>implExprFault 0 ss[j].cond _ wx (by omega) (hc.cond.below hb))
 obtain ⟨gu,cu,rfl,hgu,_⟩:=hp
 clear hc hr hpj hk hsj h1 hsm hBA
 have hzA:(w.alloc (.cells #[.int .i64 (j:Int),.int .i64 ((path ss (j+1)).length:Int),.slice ak (kidsL ss j).length ck,.int .i64 ss[j].kind,.int .i64 ss[j].parent,.string ss[j].name,.int .i64 ss[j].arg,.slice ac ss[j].cond.length cc,.slice ae ss[j].expr.length ce] 231)).heap.size=w.heap.size+1:=by simp
 have mA:∀o x,#[.int .i64 (j:Int),.int .i64 ((path ss (j+1)).length:Int),.slice ak (kidsL ss j).length ck,.int .i64 ss[j].kind,.int .i64 ss[j].parent,.string ss[j].name,.int .i64 ss[j].arg,.slice ac ss[j].cond.length cc,.slice ae ss[j].expr.length ce][o]?=some x→(w.alloc (.cells #[.int .i64 (j:Int),.int .i64 ((path ss (j+1)).length:Int),.slice ak (kidsL ss j).length ck,.int .i64 ss[j].kind,.int .i64 ss[j].parent,.string ss[j].name,.int .i64 ss[j].arg,.slice ac ss[j].cond.length cc,.slice ae ss[j].expr.length ce] 231)).cell? ⟨w.heap.size,o,none⟩=some x:=fun o x hx=>by
  have e:(w.alloc (.cells #[.int .i64 (j:Int),.int .i64 ((path ss (j+1)).length:Int),.slice ak (kidsL ss j).length ck,.int .i64 ss[j].kind,.int .i64 ss[j].parent,.string ss[j].name,.int .i64 ss[j].arg,.slice ac ss[j].cond.length cc,.slice ae ss[j].expr.length ce] 231)).heap[w.heap.size]?=some (.cells #[.int .i64 (j:Int),.int .i64 ((path ss (j+1)).length:Int),.slice ak (kidsL ss j).length ck,.int .i64 ss[j].kind,.int .i64 ss[j].parent,.string ss[j].name,.int .i64 ss[j].arg,.slice ac ss[j].cond.length cc,.slice ae ss[j].expr.length ce] 231 (0,0)):=World.alloc_heap_new w _
  simp only [World.cell?,e]
  exact hx
 have MA:=hid mA
 clear mA
 go_enter Tryz.func161,Tryz.ntmps161
 go_wp2_with fail
 refine HRU.out.mono ?_
 rintro e w1 ⟨rfl,hb1⟩
 generalize ruleD ss[j].kind=r at *
 unfold RuleD.row
 have HB1:=hid (HBA.out.trans (hb1.mono HBA.out.size))
 have hz1:w.heap.size+1≤w1.heap.size:=by have:=hb1.size;omega
 have hxB:Below w1.heap.size w1 (w1.alloc (.cells #[.string r.word,.bool r.hn,.bool r.he,.int .i64 r.la,.int .i64 r.ma,.int .i64 r.lk,.int .i64 r.mx] 255)):=(Below.refl _ w1).alloc (Nat.le_refl _) _
 have HB2:=hid (HB1.out.trans (hxB.mono HB1.out.size))
 have MB:Hid (∀o x,#[.int .i64 (j:Int),.int .i64 ((path ss (j+1)).length:Int),.slice ak (kidsL ss j).length ck,.int .i64 ss[j].kind,.int .i64 ss[j].parent,.string ss[j].name,.int .i64 ss[j].arg,.slice ac ss[j].cond.length cc,.slice ae ss[j].expr.length ce][o]?=some x→(w1.alloc (.cells #[.string r.word,.bool r.hn,.bool r.he,.int .i64 r.la,.int .i64 r.ma,.int .i64 r.lk,.int .i64 r.mx] 255)).cell? ⟨w.heap.size,o,none⟩=some x):=hid (fun o x hx=>blw_cell hxB (by omega) o x (blw_cell hb1 (by omega) o x (MA.out o x hx)))
 have b0:=MB.out 0 _ rfl
 have b1:=MB.out 1 _ rfl
 have b2:=MB.out 2 _ rfl
 have hzB:(w1.alloc (.cells #[.string r.word,.bool r.hn,.bool r.he,.int .i64 r.la,.int .i64 r.ma,.int .i64 r.lk,.int .i64 r.mx] 255)).heap.size=w1.heap.size+1:=by simp
 have hlB:w.heap.size<(w1.alloc (.cells #[.string r.word,.bool r.hn,.bool r.he,.int .i64 r.la,.int .i64 r.ma,.int .i64 r.lk,.int .i64 r.mx] 255)).heap.size:=by omega
 have n5:(w1.alloc (.cells #[.string r.word,.bool r.hn,.bool r.he,.int .i64 r.la,.int .i64 r.ma,.int .i64 r.lk,.int .i64 r.mx] 255)).cell? ⟨w1.heap.size,5,none⟩=some (.int .i64 r.lk):=by go_simp
 have n6:(w1.alloc (.cells #[.string r.word,.bool r.hn,.bool r.he,.int .i64 r.la,.int .i64 r.ma,.int .i64 r.lk,.int .i64 r.mx] 255)).cell? ⟨w1.heap.size,6,none⟩=some (.int .i64 r.mx):=by go_simp
 have hlr:w1.heap.size<(w1.alloc (.cells #[.string r.word,.bool r.hn,.bool r.he,.int .i64 r.la,.int .i64 r.ma,.int .i64 r.lk,.int .i64 r.mx] 255)).heap.size:=by omega
 clear hxB hb1 HBA HB1 MA HRU hzA
 go_wp2_with fail
 generalize w1.alloc (.cells #[.string r.word,.bool r.hn,.bool r.he,.int .i64 r.la,.int .i64 r.ma,.int .i64 r.lk,.int .i64 r.mx] 255)=wB at *
 refine (hasKids _ _ ak (kidsL ss j).length ck r.lk r.mx wB (by omega)).mono ?_
 rintro e w2 ⟨rfl,hb2⟩
 rw [HM.out]
 have HB3:=hid (HB2.out.trans (hb2.mono HB2.out.size))
 have MC:Hid (∀o x,#[.int .i64 (j:Int),.int .i64 ((path ss (j+1)).length:Int),.slice ak (kidsL ss j).length ck,.int .i64 ss[j].kind,.int .i64 ss[j].parent,.string ss[j].name,.int .i64 ss[j].arg,.slice ac ss[j].cond.length cc,.slice ae ss[j].expr.length ce][o]?=some x→w2.cell? ⟨w.heap.size,o,none⟩=some x):=hid (fun o x hx=>blw_cell hb2 hlB o x (MB.out o x hx))
 have hl2:w.heap.size<w2.heap.size:=Nat.lt_of_lt_of_le hlB hb2.size
 clear hb2 MB HB2 b0 b1 b2 n5 n6 HM
 cases hm:manyOk ss[j].kind (kidsL ss j).length
 ·have HV:=hid (HV1.out hm)
  clear hm
  go_wp2
  go_ret
  exact ⟨by rw [HV.out];rfl,HB3.out⟩
 have HV2x:=hid (HV2.out hm)
 have HV3x:=hid (HV3.out hm)
 have HV4x:=hid (HV4.out hm)
 clear HV1 HV2 HV3 HV4 hm
 have b0:=MC.out 0 _ rfl
 have b1:=MC.out 1 _ rfl
 have b2:=MC.out 2 _ rfl
 have b3:=MC.out 3 _ rfl
 have b4:=MC.out 4 _ rfl
 have b5:=MC.out 5 _ rfl
 have b6:=MC.out 6 _ rfl
 have b7:=MC.out 7 _ rfl
 have b8:=MC.out 8 _ rfl
 have HN2:=hid (HND.out _ HB3.out)
 clear HND
 by_cases hcn:0<ss[j].cond.length
 ·have t1:(0:Int)<(ss[j].cond.length:Int):=by omega
  have td:decide (0<ss[j].cond.length)=true:=by simp [hcn]
  cases hn:needs ss j
  ·have HV:=hid (HV2x.out (by simp [hn,hcn]))
   rw [hn] at HN2
   clear hn HV2x HV3x HV4x
   go_wp2_with fail
   refine HN2.out.mono ?_
   rintro e w3 ⟨rfl,hb3⟩
   have HB4:=hid (HB3.out.trans (hb3.mono HB3.out.size))
   go_wp2
   go_ret
   exact ⟨by rw [HV.out];rfl,HB4.out⟩
  ·have HV:=hid (HV3x.out (by simp [hn,hcn]) hcn)
   rw [hn] at HN2
   clear hn HV2x HV3x HV4x
   go_wp2_with fail
   refine HN2.out.mono ?_
   rintro e w3 ⟨rfl,hb3⟩
   have HB4:=hid (HB3.out.trans (hb3.mono HB3.out.size))
   have d7:=blw_cell hb3 hl2 _ _ b7
   have hl3:w.heap.size<w3.heap.size:=Nat.lt_of_lt_of_le hl2 hb3.size
   have HE2:=hid (HEX.out _ HB4.out)
   clear HN2 hb3 b0 b1 b2 b3 b4 b5 b6 b7 b8 MC HEX
   go_wp2_with fail
   refine HE2.out.mono ?_
   rintro e w4 ⟨rfl,hb4⟩
   have HB5:=hid (HB4.out.trans (hb4.mono HB4.out.size))
   go_wp2
   go_ret
   exact ⟨by rw [HV.out];rfl,HB5.out⟩
 ·have t1:¬(0:Int)<(ss[j].cond.length:Int):=by omega
  have td:decide (0<ss[j].cond.length)=false:=by simp [hcn]
  cases hn:needs ss j
  ·have HV:=hid (HV4x.out (by simp [hn,hcn]) hcn)
   rw [hn] at HN2
   clear hn HV2x HV3x HV4x
   go_wp2_with fail
   refine HN2.out.mono ?_
   rintro e w3 ⟨rfl,hb3⟩
   have HB4:=hid (HB3.out.trans (hb3.mono HB3.out.size))
   go_wp2
   go_ret
   exact ⟨by rw [HV.out];rfl,HB4.out⟩
  ·have HV:=hid (HV2x.out (by simp [hn,hcn]))
   rw [hn] at HN2
   clear hn HV2x HV3x HV4x
   go_wp2_with fail
   refine HN2.out.mono ?_
   rintro e w3 ⟨rfl,hb3⟩
   have HB4:=hid (HB3.out.trans (hb3.mono HB3.out.size))
   go_wp2
   go_ret
   exact ⟨by rw [HV.out];rfl,HB4.out⟩
set_option maxRecDepth 100000 in
set_option maxHeartbeats 4000000 in
theorem typeFault (B:Nat) (e:List NodeD) (v:Value) (want:Int) (w:World) (hl:e.length≤1048576) (ha:Nd.At w B v e):
    Calls Tryz.prog 198 #[v,.int .i64 want] w fun r w'=>r=.returned (.int .i64 (tyC e want))∧Below w.heap.size w w':=by
 have HT:=hid (implTypeOf B e v w hl ha)
 obtain ⟨a,cap,rfl⟩:=ha.slice
 clear ha
 by_cases h0:e.length=0
 ·have b0:((e.length:Int)==0)=true:=by simp [h0]
  have HV:=hid (ty_nil (want:=want) h0)
  clear h0
  go_enter Tryz.func198,Tryz.ntmps198
  go_wp2
  go_ret
  exact ⟨by rw [HV.out];rfl,Below.refl _ _⟩
 ·have b0:((e.length:Int)==0)=false:=beq_eq_false_iff_ne.2 (by omega)
  have HV1:=hid (ty_code (want:=want) h0)
  have HV2:=hid (ty_type (want:=want) h0)
  have HV3:=hid (ty_ok (want:=want) h0)
  clear h0
  generalize typeCode e=tc at *
  generalize typeVal e=tv at *
  go_enter Tryz.func198,Tryz.ntmps198
  go_wp2_with fail
  refine HT.out.mono ?_
  rintro r w1 ⟨rfl,hb1⟩
  have HB1:Hid (Below w.heap.size w (w1.alloc (.cells #[.int .i64 tc,.int .i64 tv] 306))):=hid (hb1.alloc hb1.size _)
  clear HT
  by_cases h1:tc=0
  ·have b1:(tc != 0)=false:=by simp [h1]
   by_cases h2:tv=want
   ·have b2:(tv != want)=false:=by simp [h2]
    have HV:=hid (HV3.out h1 h2)
    clear h1 h2 HV1 HV2 HV3
    go_wp2
    go_ret
    exact ⟨by rw [HV.out];rfl,HB1.out⟩
   ·have b2:(tv != want)=true:=bne_iff_ne.2 h2
    have HV:=hid (HV2.out h1 h2)
    clear h1 h2 HV1 HV2 HV3
    go_wp2
    go_ret
    exact ⟨by rw [HV.out];rfl,HB1.out⟩
  ·have b1:(tc != 0)=true:=bne_iff_ne.2 h1
   have HV:=hid (HV1.out h1)
   clear h1 HV1 HV2 HV3
   go_wp2
   go_ret
   exact ⟨by rw [HV.out];rfl,HB1.out⟩
set_option maxRecDepth 100000 in
set_option maxHeartbeats 4000000 in
theorem typesFault (ss:List StepD) (j:Nat) (kv vc ve:Value) (w:World) (hsm:St.Small 1048576 ss) (hj:j<ss.length) (hc:PCells w ss j hj kv vc ve):
    Calls Tryz.prog 162 #[.agg #[.int .i64 (j:Int),.int .i64 ((path ss (j+1)).length:Int),kv,.int .i64 ss[j].kind,.int .i64 ss[j].parent,.string ss[j].name,.int .i64 ss[j].arg,vc,ve]] w fun e w'=>e=.returned (.int .i64 (typC ss j))∧Below w.heap.size w w':=by
 obtain ⟨ak,ck,rfl⟩:=hc.kids.slice
 obtain ⟨ac,cc,rfl⟩:=hc.cond.slice
 obtain ⟨ae,ce,rfl⟩:=hc.expr.slice
 have hsj:=hsm.at hj
 have sc:=hsj.2.1
 have se:=hsj.2.2
 have hBA:Below w.heap.size w (w.alloc (.cells #[.int .i64 (j:Int),.int .i64 ((path ss (j+1)).length:Int),.slice ak (kidsL ss j).length ck,.int .i64 ss[j].kind,.int .i64 ss[j].parent,.string ss[j].name,.int .i64 ss[j].arg,.slice ac ss[j].cond.length cc,.slice ae ss[j].expr.length ce] 231)):=(Below.refl _ w).alloc (Nat.le_refl _) _
 have HC:=hid (typeFault 0 ss[j].cond _ 2 _ (by omega) (hc.cond.below hBA))
 have HE:Hid (∀wx,Below w.heap.size w wx→Calls Tryz.prog 198 #[.slice ae ss[j].expr.length ce,.int .i64 1] wx fun r w'=>r=.returned (.int .i64 (tyC ss[j].expr 1))∧Below wx.heap.size wx w'):=hid (fun wx hb=>typeFault 0 ss[j].expr _ 1 wx (by omega) (hc.expr.below hb))
 have htj:typC ss j=if tyC ss[j].cond 2≠0 then tyC ss[j].cond 2 else tyC ss[j].expr 1:=by unfold typC;rw [PJ_eq hj]
 have HTJ:=hid htj
 have HBA:=hid hBA
 clear hc hsj hsm htj hBA
 generalize tyC ss[j].cond 2=t1 at *
 generalize tyC ss[j].expr 1=t2 at *
 go_enter Tryz.func162,Tryz.ntmps162
 go_wp2_with fail
 refine HC.out.mono ?_
 rintro e w1 ⟨rfl,hb1⟩
 have d8:=(hb1.cell (p:=⟨w.heap.size,8,none⟩) (by simp)).trans (show _=some (.slice ae ss[j].expr.length ce) by go_simp)
 have hl1:w.heap.size<w1.heap.size:=by have:=hb1.size;simp at this;omega
 have HB1:=hid (HBA.out.trans (hb1.mono HBA.out.size))
 clear hb1 HC HBA
 by_cases hz1:t1=0
 ·have b1:(t1 != 0)=false:=by simp [hz1]
  have HT1:Hid (typC ss j=t2):=hid (by rw [HTJ.out,if_neg (by simp [hz1])])
  have HE2:=hid (HE.out _ HB1.out)
  clear hz1 HE
  go_wp2_with fail
  refine HE2.out.mono ?_
  rintro e w3 ⟨rfl,hb3⟩
  have hB3:=HB1.out.trans (hb3.mono HB1.out.size)
  go_wp2
  go_ret
  exact ⟨by rw [HT1.out];rfl,hB3⟩
 ·have b1:(t1 != 0)=true:=bne_iff_ne.2 hz1
  have HT1:Hid (typC ss j=t1):=hid (by rw [HTJ.out,if_pos hz1])
  clear hz1 HE
  go_wp2
  go_ret
  exact ⟨by rw [HT1.out];rfl,HB1.out⟩
def capOk (u:Value):Prop:=∀a n cap,u=.slice a n cap→n≤cap∧cap≤maxLen
theorem cap_of {w:World} {B n sz:Nat} {e:TypeId} {u:Value} {xs:List Value} (h:w.ownsRow B e sz u n xs):capOk u:=by
 obtain ⟨_,⟨rfl,_⟩ | ⟨g,cap,cur,rfl,hbg,hg,hle,hm,hs,ht⟩⟩:=h
 ·intro a m c e;cases e;exact ⟨Nat.le_refl _,Nat.zero_le _⟩
 ·intro a m c e;cases e;exact ⟨hle,hm⟩
set_option maxRecDepth 100000 in
set_option maxHeartbeats 16000000 in
theorem procStepsC (ss:List StepD) (v:Value) (w:World) (hsm:St.Small 1048576 ss) (ha:St.At w 0 v ss) (hr:Rul w):
    Calls Tryz.prog 122 #[v] w fun e w'=>(∃u,e=.returned (.tuple #[u,.int .i64 (pFault ss)])∧(pFault ss≠0→u=.slice none 0 0)∧(pFault ss=0→PAt w' ss u∧capOk u))∧Below w.heap.size w w':=by
 have HT:=hid (stepTree ss v w hsm ha hr)
 have HR:=hid hr
 have hgl:=hr.lt
 obtain ⟨a,cap,rfl⟩:=ha.slice
 have HSM:=hid hsm
 have hlen:=hsm.1
 clear ha hsm hr
 by_cases hf1:fault1 ss=0
 ·have hz:¬(ss.length<1∨24<ss.length):=fun h=>by rw [f1_many h] at hf1;omega
  have HZ:=hid hz
  have h1:firstC (oneC ss) ss.length=0:=by unfold fault1 at hf1;rw [if_neg hz] at hf1;exact hf1
  have H1:=hid h1
  have hl:ss.length≤24:=by omega
  have hl1:1≤ss.length:=by omega
  have HF:=hid hf1
  clear hz h1 hf1
  go_enter Tryz.func122,Tryz.ntmps122
  go_wp2_with fail
  refine HT.out.mono ?_
  rintro e w1 ⟨⟨v',rfl,_,hv2⟩,hb1⟩
  obtain ⟨T,hT,hI⟩:=hv2 HF.out
  rw [HF.out]
  have HP:=hid (placeSteps T w.heap.size ss.length v' w1 hl hT (fun j hj=>⟨by obtain ⟨x,y,h⟩:=(hI.vc j hj hj).slice;exact ⟨_,_,_,h⟩,by obtain ⟨x,y,h⟩:=(hI.ve j hj hj).slice;exact ⟨_,_,_,h⟩⟩))
  obtain ⟨a1,c1,rfl⟩:=hT.slice
  have HTT:=hid hT
  have HII:=hid hI
  have HB1:=hid hb1
  clear hv2 hT hI hb1 HT HF
  go_wp2_with fail
  refine HP.out.mono ?_
  rintro e w2 ⟨⟨u,rfl,ho⟩,hb2⟩
  have hPA:PAt w2 ss u:=PAt.of (by omega) HTT.out HII.out HB1.out hb2 ho
  obtain ⟨gu,cu,rfl,_⟩:=hPA
  have hPA:PAt w2 ss (.slice (some ⟨gu,0,none⟩) ss.length cu):=PAt.of (by omega) HTT.out HII.out HB1.out hb2 ho
  have HPA:=hid hPA
  have HCP:=hid (cap_of ho)
  have HB2:=hid (HB1.out.trans (hb2.mono HB1.out.size))
  clear ho hb2 hPA HTT HII HP HB1
  go_wp2
  go_loopw [8,9,25] (fun _ _ x wr=>∃j:Nat,x=.int .i64 j∧j≤ss.length∧Hid (firstC (linkC ss) j=0)∧Hid (Below w2.heap.size w2 wr)) (fun _ _ x _=>ss.length - (intOf x).toNat)
  case atStart=>exact ⟨0,rfl,Nat.zero_le _,hid rfl,hid (Below.refl _ _)⟩
  case round=>
   obtain ⟨j,rfl,hjl,HL,HBR⟩:=hrel
   have HBW:=hid (HB2.out.trans (HBR.out.mono HB2.out.size))
   by_cases hlt:j<ss.length
   ·have hP:=HPA.out.below HBR.out
    obtain ⟨g',cap',e',hg,hc⟩:=hP
    cases e'
    obtain ⟨kv,vc,ve,d0,d1,d2,d3,d4,d5,d6,d7,d8,hpc⟩:=hc j hlt
    clear hc
    have hxA:Below wr.heap.size wr (wr.alloc (.cells #[.int .i64 (j:Int),.int .i64 ((path ss (j+1)).length:Int),kv,.int .i64 ss[j].kind,.int .i64 ss[j].parent,.string ss[j].name,.int .i64 ss[j].arg,vc,ve] 231)):=(Below.refl _ wr).alloc (Nat.le_refl _) _
    have HB3:=hid (HBW.out.trans (hxA.mono HBW.out.size))
    have HLF:=hid (linksFault ss _ j kv vc ve _ hl HSM.out hlt (first_all H1.out hlt) ((HPA.out.below HBR.out).below hxA) (hpc.below hxA) (HR.out.below HB3.out hgl))
    have HB4:=hid (HBR.out.trans (hxA.mono HBR.out.size))
    obtain ⟨ak,ck,rfl⟩:=hpc.kids.slice
    obtain ⟨ac,cc,rfl⟩:=hpc.cond.slice
    obtain ⟨ae,ce,rfl⟩:=hpc.expr.slice
    have q1:(j:Int)<(ss.length:Int):=by omega
    have HBad:=hid (fun (h:linkC ss j≠0)=>p_link HZ.out H1.out hlt HL.out h)
    have HNx:=hid (fun (h:linkC ss j=0)=>first_next HL.out h)
    clear hpc hxA
    generalize linkC ss j=lc at *
    go_wp2_with fail
    refine HLF.out.mono ?_
    rintro e w3 ⟨rfl,hb3⟩
    have HB5:=hid (HB3.out.trans (hb3.mono HB3.out.size))
    have HB6:=hid (HB4.out.trans (hb3.mono HB4.out.size))
    clear hb3 HLF
    by_cases hz:lc=0
    ·have b1:(lc != 0)=false:=by simp [hz]
     have HN:=hid (HNx.out hz)
     clear hz HBad HNx
     go_wp2
     exact ⟨⟨j+1,by simp,by omega,HN,HB6⟩,by simp [intOf];omega⟩
    ·have b1:(lc != 0)=true:=bne_iff_ne.2 hz
     have HV:=hid (HBad.out hz)
     have HNZ:=hid hz
     clear hz HBad HNx
     go_wp2
     go_ret2
     exact ⟨⟨_,by rw [HV.out];rfl,fun _=>rfl,fun e=>absurd (by rw [←HV.out];exact e) HNZ.out⟩,HB5.out⟩
   ·have hjn:j=ss.length:=by omega
    rw [hjn] at HL
    have H2:=HL
    clear hjn
    go_wp2
    go_loopw [11,12,38] (fun _ _ x wr=>∃j:Nat,x=.int .i64 j∧j≤ss.length∧Hid (firstC (typC ss) j=0)∧Hid (Below w2.heap.size w2 wr)) (fun _ _ x _=>ss.length - (intOf x).toNat)
    case atStart=>exact ⟨0,rfl,Nat.zero_le _,hid rfl,HBR⟩
    case round=>
     obtain ⟨k,rfl,hkl,HK,HBK⟩:=hrel
     have HBW2:=hid (HB2.out.trans (HBK.out.mono HB2.out.size))
     by_cases hlk:k<ss.length
     ·have hP:=HPA.out.below HBK.out
      obtain ⟨g',cap',e',hg,hc⟩:=hP
      cases e'
      obtain ⟨kv,vc,ve,d0,d1,d2,d3,d4,d5,d6,d7,d8,hpc⟩:=hc k hlk
      clear hc
      have hxA:Below wr.heap.size wr (wr.alloc (.cells #[.int .i64 (k:Int),.int .i64 ((path ss (k+1)).length:Int),kv,.int .i64 ss[k].kind,.int .i64 ss[k].parent,.string ss[k].name,.int .i64 ss[k].arg,vc,ve] 231)):=(Below.refl _ wr).alloc (Nat.le_refl _) _
      have HTF:=hid (typesFault ss k kv vc ve _ HSM.out hlk (hpc.below hxA))
      have HB3:=hid (HBW2.out.trans (hxA.mono HBW2.out.size))
      have HB4:=hid (HBK.out.trans (hxA.mono HBK.out.size))
      obtain ⟨ak,ck,rfl⟩:=hpc.kids.slice
      obtain ⟨ac,cc,rfl⟩:=hpc.cond.slice
      obtain ⟨ae,ce,rfl⟩:=hpc.expr.slice
      have q1:(k:Int)<(ss.length:Int):=by omega
      have HBad:=hid (fun (h:typC ss k≠0)=>p_typ HZ.out H1.out H2.out hlk HK.out h)
      have HNx:=hid (fun (h:typC ss k=0)=>first_next HK.out h)
      clear hpc hxA
      generalize typC ss k=lc at *
      go_wp2_with fail
      refine HTF.out.mono ?_
      rintro e w3 ⟨rfl,hb3⟩
      have HB5:=hid (HB3.out.trans (hb3.mono HB3.out.size))
      have HB6:=hid (HB4.out.trans (hb3.mono HB4.out.size))
      clear hb3 HTF
      by_cases hz:lc=0
      ·have b1:(lc != 0)=false:=by simp [hz]
       have HN:=hid (HNx.out hz)
       clear hz HBad HNx
       go_wp2
       exact ⟨⟨k+1,by simp,by omega,HN,HB6⟩,by simp [intOf];omega⟩
      ·have b1:(lc != 0)=true:=bne_iff_ne.2 hz
       have HV:=hid (HBad.out hz)
       have HNZ:=hid hz
       clear hz HBad HNx
       go_wp2
       go_ret2
       exact ⟨⟨_,by rw [HV.out];rfl,fun _=>rfl,fun e=>absurd (by rw [←HV.out];exact e) HNZ.out⟩,HB5.out⟩
     ·have hkn:k=ss.length:=by omega
      rw [hkn] at HK
      have HV:=hid (p_ok HZ.out H1.out H2.out HK.out)
      clear hkn
      go_wp2
      go_ret2
      exact ⟨⟨_,by rw [HV.out];rfl,fun e=>absurd HV.out e,fun _=>⟨HPA.out.below HBK.out,HCP.out⟩⟩,HBW2.out⟩
 ·have HV:Hid (pFault ss=fault1 ss):=hid (by
   unfold fault1 at hf1 ⊢
   unfold pFault
   by_cases h:ss.length<1∨24<ss.length
   ·rw [if_pos h,if_pos h]
   ·rw [if_neg h] at hf1
    rw [if_neg h,if_neg h,if_pos hf1])
  have b1:(fault1 ss != 0)=true:=bne_iff_ne.2 hf1
  have HN:=hid hf1
  clear hf1
  go_enter Tryz.func122,Tryz.ntmps122
  go_wp2_with fail
  refine HT.out.mono ?_
  rintro e w1 ⟨⟨v',rfl,hv1,_⟩,hb1⟩
  obtain rfl:=hv1 HN.out
  clear hv1
  go_wp2
  go_ret2
  exact ⟨⟨_,by rw [HV.out];rfl,fun _=>rfl,fun e=>absurd (by rw [←HV.out];exact e) HN.out⟩,hb1⟩
theorem procSteps (ss:List StepD) (v:Value) (w:World) (hsm:St.Small 1048576 ss) (ha:St.At w 0 v ss) (hr:Rul w):
    Calls Tryz.prog 122 #[v] w fun e w'=>(∃u,e=.returned (.tuple #[u,.int .i64 (pFault ss)])∧(pFault ss≠0→u=.slice none 0 0)∧(pFault ss=0→PAt w' ss u))∧Below w.heap.size w w':=
 (procStepsC ss v w hsm ha hr).mono fun e w' ⟨⟨u,h1,h2,h3⟩,h4⟩=>⟨⟨u,h1,h2,fun h=>(h3 h).1⟩,h4⟩
set_option maxRecDepth 100000 in
set_option maxHeartbeats 1000000 in
theorem implProcFault (ss:List StepD) (v:Value) (w:World) (hsm:St.Small 1048576 ss) (ha:St.At w 0 v ss) (hr:Rul w):
    Calls Tryz.prog 144 #[v] w fun e w'=>e=.returned (.int .i64 (pFault ss))∧Below w.heap.size w w':=by
 have HC:=hid (procSteps ss v w hsm ha hr)
 obtain ⟨a,cap,rfl⟩:=ha.slice
 clear ha hsm hr
 go_enter Tryz.func144,Tryz.ntmps144
 go_wp2_with (go_at_call 122;refine HC.out.mono ?_;rintro e w' ⟨⟨u,rfl,_,_⟩,hb⟩)
 go_ret
 exact ⟨rfl,hb⟩
end Pf
end Go.Proofs.YtccklgopcjilcaaGreatDoor
/- DeepOf, of the specification and of the program. Condition of the second: the table of rules lies as its initialiser lays it. -/
namespace Go.Proofs.YtccklgopcjilcaaGreatDoor
open Go.RowKit
set_option linter.unusedVariables false
namespace Pf
open Ex (hid inR eFault)
open Nd (NodeD)
open St (StepD)
open Tr (Chain cutTo onPath top nf ElemD)
theorem kept_cell {B:Nat} {W w:World} (h:Below B W w) {b o:Nat} (hb:b<B) {v:Value} (hc:W.cell? ⟨b,o,none⟩=some v):w.cell? ⟨b,o,none⟩=some v:=(h.cell (p:=⟨b,o,none⟩) hb).trans hc
theorem kept_free {B:Nat} {W w:World} (h:Below B W w) {b o:Nat} (hb:b<B) (hc:W.frozen? ⟨b,o,none⟩=false):w.frozen? ⟨b,o,none⟩=false:=(h.frozen (p:=⟨b,o,none⟩) hb).trans hc
end Pf
end Go.Proofs.YtccklgopcjilcaaGreatDoor
