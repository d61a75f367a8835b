/- Laid together: PsC, PiB. -/
import Derived.Test.YtccklgopcjilcaaGreatDoorJCT17
import Derived.Deep.RegionHeld3
import Derived.Test.YtccklgopcjilcaaGreatDoorJCT8
/- What is wrong with a process, as the specification tells it. -/
namespace Go.Proofs.YtccklgopcjilcaaGreatDoor
open Go.RowKit
set_option linter.unusedVariables false
namespace Pf
open Ex (hid inR eFault typeCode typeVal specIn)
open Nd (NodeD)
open St (StepD)
open Tr (Chain cutTo onPath top nf ElemD)
open Pt (kidVals)
theorem last_get {l:List Nat} {i:Nat} (h:l≠[]):lastIs l i=(l[l.length - 1]?==some i):=by unfold lastIs;rw [List.getLast?_eq_getElem?]
theorem kids_self {ss:List StepD} {i:Nat} (hi:i<ss.length) {p:Nat} (hp:(PJ ss i).parent=(p:Int)):kidsL ss p≠[]:=by
 intro e
 have:i∈kidsL ss p:=by
  unfold kidsL kidsN
  rw [List.mem_filter]
  exact ⟨by simpa using hi,by simp [hp]⟩
 rw [e] at this
 cases this
theorem row_last {w:World} {B:Nat} {u:Value} {l:List Nat} (h:w.ownsRow B 2 1 u l.length (kidVals l)) (h0:l≠[]):∃g cap x,u=.slice (some ⟨g,0,none⟩) l.length cap∧l[l.length - 1]?=some x∧w.cell? ⟨g,l.length - 1,none⟩=some (.int .i64 (x:Int))∧g<w.heap.size:=by
 have hl:0<l.length:=List.length_pos_iff.2 h0
 obtain ⟨_,⟨_,h1⟩ | ⟨g,cap,cur,rfl,hbg,hg,hle,hm,hs,ht⟩⟩:=h
 ·omega
 ·have hx:l[l.length - 1]?=some l[l.length - 1]:=List.getElem?_eq_getElem (by omega)
  refine ⟨g,cap,l[l.length - 1],rfl,hx,?_,(Array.getElem?_eq_some_iff.1 hg).1⟩
  have:cur[l.length - 1]?=some (.int .i64 (l[l.length - 1]:Int)):=by
   have h2:=congrArg (·[l.length - 1]?) ht
   simp only [kidVals,Nat.mul_one,List.getElem?_take,List.getElem?_map,hx,Option.map_some,show l.length - 1<l.length by omega,if_true] at h2
   simpa using h2
  simp [World.cell?,hg,this]
theorem row_slice {w:World} {B n:Nat} {u:Value} {l:List Value} (h:w.ownsRow B 2 1 u n l):∃a cap,u=.slice a n cap:=by
 obtain ⟨_,⟨rfl,rfl⟩ | ⟨g,cap,cur,rfl,_⟩⟩:=h
 ·exact ⟨_,_,rfl⟩
 ·exact ⟨_,_,rfl⟩
set_option maxRecDepth 100000 in
set_option maxHeartbeats 4000000 in
theorem specNeeds (B:Nat) (ss:List StepD) (v:Value) (i:Nat) (w:World) (hl:ss.length≤24) (hi:i<ss.length) (h1:oneC ss i=0) (ha:St.At w B v ss):
    Calls Tryz.prog 223 #[v,.int .i64 (i:Int)] w fun e w'=>e=.returned (.bool (needs ss i))∧Below w.heap.size w w':=by
 obtain ⟨hp1,hp2⟩:=par_lt h1
 obtain ⟨a,cap,rfl⟩:=ha.slice
 obtain ⟨g,o,vc,ve,rfl,hg,c0,c1,c2,c3,c4,c5,_⟩:=ha.at hi
 have hpj:PJ ss i=ss[i]:=PJ_eq hi
 have q1:(i:Int)<(ss.length:Int):=by omega
 have HA:=hid ha
 clear h1 c0 c2 c3 c4 c5 ha
 by_cases hp:ss[i].parent<0
 ·have HV:Hid (needs ss i=false):=hid (by unfold needs;rw [hpj];simp;omega)
  go_enter Tryz.func223,Tryz.ntmps223
  go_wp2
  go_ret
  exact ⟨by rw [HV.out];rfl,Below.refl _ _⟩
 ·rw [hpj] at hp1
  obtain ⟨p,hpp⟩:∃p:Nat,ss[i].parent=(p:Int):=⟨ss[i].parent.toNat,by omega⟩
  have hpl:p<ss.length:=by omega
  obtain ⟨g',o',vx,vy,e',hg',d0,d1,d2,d3,d4,d5,_⟩:=HA.out.at hpl
  cases e'
  rw [hpp] at c1
  have q2:¬(p:Int)<0:=by omega
  have q3:(p:Int)<(ss.length:Int):=by omega
  have HN:Hid (needs ss i=((ss[p].kind==3)&&!lastIs (kidsL ss p) i)):=hid (by
   unfold needs
   rw [hpj,hpp,Int.toNat_natCast,PJ_eq hpl]
   have:(0:Int)≤(p:Int):=by omega
   simp [this])
  have hk0:=kids_self hi (by rw [hpj];exact hpp)
  have hkl:(kidsL ss p).length≤24:=by have:=kidsN_le ss ss.length p;unfold kidsL;omega
  clear hp hp1 hp2 hpp hpj d1 d2 d3 d4 d5
  cases hk:(ss[p].kind==3)
  ·have b1:(ss[p].kind != 3)=true:=by rw [bne,hk];rfl
   have HV:Hid (needs ss i=false):=hid (by rw [HN.out,hk];rfl)
   clear hk
   go_enter Tryz.func223,Tryz.ntmps223
   go_wp2
   go_ret
   exact ⟨by rw [HV.out];rfl,Below.refl _ _⟩
  ·have b1:(ss[p].kind != 3)=false:=by rw [bne,hk];rfl
   have HV:Hid (needs ss i=!lastIs (kidsL ss p) i):=hid (by rw [HN.out,hk];rfl)
   have HK:=hid (specKids B ss _ p w (by omega) HA.out)
   have HK0:=hid hk0
   clear hk HN hk0
   go_enter Tryz.func223,Tryz.ntmps223
   go_wp2_with fail
   refine HK.out.mono ?_
   rintro e w1 ⟨⟨u,rfl,ho⟩,hb1⟩
   obtain ⟨gu,cu,x,rfl,hx,hcx,hgl⟩:=row_last ho HK0.out
   have hpos:0<(kidsL ss p).length:=List.length_pos_iff.2 HK0.out
   have HV2:Hid (needs ss i=((x:Int) != (i:Int))):=hid (by
    rw [HV.out,last_get HK0.out,hx]
    by_cases e:x=i
    ·simp [e]
    ·have h8:(some x==some i)=false:=by simp [e]
     have h9:((x:Int) != (i:Int))=true:=bne_iff_ne.2 (by omega)
     rw [h8,h9]
     rfl)
   clear ho hx HV HK HK0
   generalize (kidsL ss p).length=m at *
   have hm:((m:Int) - 1)=((m - 1:Nat):Int):=by omega
   go_wp2
   go_ret
   exact ⟨by rw [HV2.out];rfl,hb1⟩
set_option maxRecDepth 100000 in
set_option maxHeartbeats 2000000 in
theorem specTyped (B:Nat) (e:List NodeD) (v:Value) (want:Int) (w:World) (hl:e.length≤1048576) (ha:Nd.At w B v e):
    Calls Tryz.prog 180 #[v,.int .i64 want] w fun r w'=>r=.returned (.int .i64 (tyC e want))∧Below w.heap.size w w':=by
 have HT:=hid (Ex.specType B e v w hl ha)
 obtain ⟨a,cap,rfl⟩:=ha.slice
 clear ha
 by_cases h0:e.length=0
 ·have b0:((e.length:Int)==0)=true:=by simp [h0]
  have HV:=hid (ty_nil (want:=want) h0)
  clear h0
  go_enter Tryz.func180,Tryz.ntmps180
  go_wp2
  go_ret
  exact ⟨by rw [HV.out];rfl,Below.refl _ _⟩
 ·have b0:((e.length:Int)==0)=false:=beq_eq_false_iff_ne.2 (by omega)
  have HV1:=hid (ty_code (want:=want) h0)
  have HV2:=hid (ty_type (want:=want) h0)
  have HV3:=hid (ty_ok (want:=want) h0)
  clear h0
  generalize typeCode e=tc at *
  generalize typeVal e=tv at *
  by_cases h1:tc=0
  ·have b1:(tc != 0)=false:=by simp [h1]
   by_cases h2:tv=want
   ·have b2:(tv != want)=false:=by simp [h2]
    have HV:=hid (HV3.out h1 h2)
    clear h1 h2 HV1 HV2 HV3
    go_enter Tryz.func180,Tryz.ntmps180
    go_wp2_with fail
    refine HT.out.mono ?_
    rintro r w1 ⟨rfl,hb1⟩
    go_wp2
    go_ret
    exact ⟨by rw [HV.out];rfl,hb1⟩
   ·have b2:(tv != want)=true:=bne_iff_ne.2 h2
    have HV:=hid (HV2.out h1 h2)
    clear h1 h2 HV1 HV2 HV3
    go_enter Tryz.func180,Tryz.ntmps180
    go_wp2_with fail
    refine HT.out.mono ?_
    rintro r w1 ⟨rfl,hb1⟩
    go_wp2
    go_ret
    exact ⟨by rw [HV.out];rfl,hb1⟩
  ·have b1:(tc != 0)=true:=bne_iff_ne.2 h1
   have HV:=hid (HV1.out h1)
   clear h1 HV1 HV2 HV3
   go_enter Tryz.func180,Tryz.ntmps180
   go_wp2_with fail
   refine HT.out.mono ?_
   rintro r w1 ⟨rfl,hb1⟩
   go_wp2
   go_ret
   exact ⟨by rw [HV.out];rfl,hb1⟩
set_option maxRecDepth 100000 in
set_option maxHeartbeats 16000000 in
theorem specShape (B:Nat) (ss:List StepD) (v:Value) (w:World) (hl:ss.length≤24) (hsm:St.Small 1048576 ss) (h0:firstC (oneC ss) ss.length=0) (ha:St.At w B v ss):
    Calls Tryz.prog 179 #[v] w fun e w'=>e=.returned (.int .i64 (firstC (linkC ss) ss.length))∧Below w.heap.size w w':=by
 obtain ⟨a,cap,rfl⟩:=ha.slice
 have HA:=hid ha
 have HSM:=hid hsm
 have H0:=hid h0
 clear ha hsm h0
 go_enter Tryz.func179,Tryz.ntmps179
 go_wp2
 go_loopw [3,4] (fun x _ wr=>∃i:Nat,x=.int .i64 i∧i≤ss.length∧Hid (firstC (linkC ss) i=0)∧Hid (Below w.heap.size w wr)) (fun x _ _=>ss.length - (intOf x).toNat)
 case atStart=>exact ⟨0,rfl,Nat.zero_le _,hid rfl,hid (Below.refl _ _)⟩
 case round=>
  obtain ⟨i,rfl,hil,HL,HB⟩:=hrel
  by_cases hlt:i<ss.length
  ·have hA:=HA.out.below HB.out
   obtain ⟨g,o,vc,ve,rfl,hg,c0,c1,c2,c3,c4,c5,hvc,hve⟩:=hA.at hlt
   obtain ⟨ac,cc,rfl⟩:=hvc.slice
   have hpj:PJ ss i=ss[i]:=PJ_eq hlt
   have q1:(i:Int)<(ss.length:Int):=by omega
   have hsc:ss[i].cond.length≤1048576:=by have:=(HSM.out.at hlt).2.1;omega
   have HK:Hid (∀wx,Below wr.heap.size wr wx→Calls Tryz.prog 222 #[.slice (some ⟨g,o,none⟩) ss.length cap,.int .i64 (i:Int)] wx fun e w'=>(∃u,e=.returned u∧w'.ownsRow wx.heap.size 2 1 u (kidsL ss i).length (kidVals (kidsL ss i)))∧Below wx.heap.size wx w'):=hid (fun wx hb=>specKids B ss _ i wx (by omega) (hA.below hb))
   have HNd:Hid (∀wx,Below wr.heap.size wr wx→Calls Tryz.prog 223 #[.slice (some ⟨g,o,none⟩) ss.length cap,.int .i64 (i:Int)] wx fun e w'=>e=.returned (.bool (needs ss i))∧Below wx.heap.size wx w'):=hid (fun wx hb=>specNeeds B ss _ i wx hl hlt (first_all H0.out hlt) (hA.below hb))
   have HE:Hid (∀wx,Below wr.heap.size wr wx→Calls Tryz.prog 220 #[.slice ac ss[i].cond.length cc] wx fun e w'=>e=.returned (.int .i64 (eFault ss[i].cond))∧Below wx.heap.size wx w'):=hid (fun wx hb=>Ex.specFault1 B ss[i].cond _ wx hsc (hvc.below hb))
   have hkl:(kidsL ss i).length≤24:=by have:=kidsN_le ss ss.length i;unfold kidsL;omega
   have HM:=hid (fun wx=>specMany ss[i].kind (kidsL ss i).length wx (by omega))
   have HV1:=hid (link_many (ss:=ss) (i:=i))
   have HV2:=hid (link_need (ss:=ss) (i:=i))
   have HV3:=hid (link_cond (ss:=ss) (i:=i))
   have HV4:=hid (link_ok (ss:=ss) (i:=i))
   rw [hpj] at HV1 HV2 HV3 HV4
   have HBad:=hid (fun (h:linkC ss i≠0)=>first_bad hlt HL.out h)
   have HNx:=hid (fun (h:linkC ss i=0)=>first_next HL.out h)
   have hbd:Below wr.heap.size wr wr.drew:=(Below.refl _ wr).drew
   have hgd:g<wr.drew.heap.size:=hg
   have e0:wr.drew.cell? ⟨g,o+i*6,none⟩=some (.int .i64 ss[i].kind):=c0
   have e4:wr.drew.cell? ⟨g,o+i*6+4,none⟩=some (.slice ac ss[i].cond.length cc):=c4
   clear hA hvc hve c1 c2 c3 c5 hpj
   generalize hkn:(kidsL ss i).length=kn at *
   generalize kidVals (kidsL ss i)=kvs at *
   clear hkn
   go_wp2
   go_region_held3 (fun wx=>wx.cell? ⟨g,o+i*6,none⟩=some (.int .i64 ss[i].kind)∧wx.cell? ⟨g,o+i*6+4,none⟩=some (.slice ac ss[i].cond.length cc)∧Below wr.heap.size wr wx) (refine ⟨?_,?_,?_⟩ <;> first | assumption | (simp [*];done)) (first
    | (go_at_call 222;refine (HK.out _ hbd).mono ?_;rintro e w4 ⟨⟨u,rfl,ho⟩,hb4⟩;obtain ⟨au,cu,rfl⟩:=row_slice ho;have hB4:Below wr.heap.size wr w4:=hbd.trans (hb4.mono hbd.size);have k0:=(hb4.cell (p:=⟨g,o+i*6,none⟩) hgd).trans e0;have k4:=(hb4.cell (p:=⟨g,o+i*6+4,none⟩) hgd).trans e4;clear ho hb4)
    | (go_at_call 221;refine (HM.out _).mono ?_;rintro e w5 ⟨rfl,hw5⟩;replace hw5:=hw5.symm;subst hw5))
   have hg4:g<w4.drew.heap.size:=Nat.lt_of_lt_of_le hg hB4.size
   have hb4d:Below wr.heap.size wr w4.drew:=hB4.drew
   have e4':w4.drew.cell? ⟨g,o+i*6+4,none⟩=some (.slice ac ss[i].cond.length cc):=k4
   clear e0 e4 k0 HK HM hbd hgd c0 c4
   have hg4':g<w4.heap.size:=hg4
   cases hm:manyOk ss[i].kind kn
   ·have HV:=hid (HV1.out hm)
    clear hm
    go_wp2
    go_ret
    exact ⟨by rw [HBad.out (by rw [HV.out];decide),HV.out];rfl,HB.out.trans (hB4.mono HB.out.size)⟩
   have HV2x:=hid (HV2.out hm)
   have HV3x:=hid (HV3.out hm)
   have HV4x:=hid (HV4.out hm)
   clear HV1 HV2 HV3 HV4 hm
   by_cases hc:0<ss[i].cond.length
   ·have t1:(0:Int)<(ss[i].cond.length:Int):=by omega
    cases hn:needs ss i
    ·have HV:=hid (HV2x.out (by simp [hn,hc]))
     go_wp2
     go_region_held3 (fun wx=>wx.cell? ⟨g,o+i*6+4,none⟩=some (.slice ac ss[i].cond.length cc)∧Below wr.heap.size wr wx) (refine ⟨?_,?_⟩ <;> first | assumption | (simp [*];done)) (first
      | (go_at_call 223;refine (HNd.out _ hb4d).mono ?_;rintro e w6 ⟨rfl,hb6⟩;rw [hn];have hB6:Below wr.heap.size wr w6:=hb4d.trans (hb6.mono hb4d.size);have k6:=(hb6.cell (p:=⟨g,o+i*6+4,none⟩) hg4).trans e4';have hg6:g<w6.heap.size:=Nat.lt_of_lt_of_le hg4 hb6.size;clear hb6))
     go_wp2
     go_ret
     exact ⟨by rw [HBad.out (by rw [HV.out];decide),HV.out];rfl,HB.out.trans (hB6.mono HB.out.size)⟩
    ·have HV:=hid (HV3x.out (by simp [hn,hc]) hc)
     go_wp2
     go_region_held3 (fun wx=>wx.cell? ⟨g,o+i*6+4,none⟩=some (.slice ac ss[i].cond.length cc)∧Below wr.heap.size wr wx) (refine ⟨?_,?_⟩ <;> first | assumption | (simp [*];done)) (first
      | (go_at_call 223;refine (HNd.out _ hb4d).mono ?_;rintro e w6 ⟨rfl,hb6⟩;rw [hn];have hB6:Below wr.heap.size wr w6:=hb4d.trans (hb6.mono hb4d.size);have k6:=(hb6.cell (p:=⟨g,o+i*6+4,none⟩) hg4).trans e4';have hg6:g<w6.heap.size:=Nat.lt_of_lt_of_le hg4 hb6.size;clear hb6))
     have HE2:=hid (HE.out _ hB6)
     generalize eFault ss[i].cond=ef at *
     go_wp2_with fail
     refine HE2.out.mono ?_
     rintro e w7 ⟨rfl,hb7⟩
     have hB7:=HB.out.trans ((hB6.trans (hb7.mono hB6.size)).mono HB.out.size)
     by_cases hz:ef=0
     ·have b1:(ef != 0)=false:=by simp [hz]
      have HNX:=hid (HNx.out (by rw [HV.out];exact hz))
      clear hz
      go_wp2
      exact ⟨⟨i+1,by simp,by omega,HNX,hid hB7⟩,by simp [intOf];omega⟩
     ·have b1:(ef != 0)=true:=bne_iff_ne.2 hz
      have HBD:=hid (HBad.out (by rw [HV.out];exact hz))
      clear hz
      go_wp2
      go_ret
      exact ⟨by rw [HBD.out,HV.out];rfl,hB7⟩
   ·have t1:¬(0:Int)<(ss[i].cond.length:Int):=by omega
    cases hn:needs ss i
    ·have HV:=hid (HNx.out (HV4x.out (by simp [hn,hc]) hc))
     go_wp2
     go_region_held3 (fun wx=>wx.cell? ⟨g,o+i*6+4,none⟩=some (.slice ac ss[i].cond.length cc)∧Below wr.heap.size wr wx) (refine ⟨?_,?_⟩ <;> first | assumption | (simp [*];done)) (first
      | (go_at_call 223;refine (HNd.out _ hb4d).mono ?_;rintro e w6 ⟨rfl,hb6⟩;rw [hn];have hB6:Below wr.heap.size wr w6:=hb4d.trans (hb6.mono hb4d.size);have k6:=(hb6.cell (p:=⟨g,o+i*6+4,none⟩) hg4).trans e4';have hg6:g<w6.heap.size:=Nat.lt_of_lt_of_le hg4 hb6.size;clear hb6))
     go_wp2
     exact ⟨⟨i+1,by simp,by omega,HV,hid (HB.out.trans (hB6.mono HB.out.size))⟩,by simp [intOf];omega⟩
    ·have HV:=hid (HV2x.out (by simp [hn,hc]))
     go_wp2
     go_region_held3 (fun wx=>wx.cell? ⟨g,o+i*6+4,none⟩=some (.slice ac ss[i].cond.length cc)∧Below wr.heap.size wr wx) (refine ⟨?_,?_⟩ <;> first | assumption | (simp [*];done)) (first
      | (go_at_call 223;refine (HNd.out _ hb4d).mono ?_;rintro e w6 ⟨rfl,hb6⟩;rw [hn];have hB6:Below wr.heap.size wr w6:=hb4d.trans (hb6.mono hb4d.size);have k6:=(hb6.cell (p:=⟨g,o+i*6+4,none⟩) hg4).trans e4';have hg6:g<w6.heap.size:=Nat.lt_of_lt_of_le hg4 hb6.size;clear hb6))
     go_wp2
     go_ret
     exact ⟨by rw [HBad.out (by rw [HV.out];decide),HV.out];rfl,HB.out.trans (hB6.mono HB.out.size)⟩
  ·obtain rfl:i=ss.length:=by omega
   go_wp2
   go_ret
   exact ⟨by rw [HL.out];rfl,HB.out⟩
set_option maxRecDepth 100000 in
set_option maxHeartbeats 8000000 in
theorem specFault (B:Nat) (ss:List StepD) (v:Value) (w:World) (hsm:St.Small 1048576 ss) (ha:St.At w B v ss):
    Calls Tryz.prog 141 #[v] w fun e w'=>e=.returned (.int .i64 (pFault ss))∧Below w.heap.size w w':=by
 obtain ⟨a,cap,rfl⟩:=ha.slice
 have HA:=hid ha
 have HSM:=hid hsm
 have hlen:=hsm.1
 clear ha hsm
 by_cases z1:ss.length<1
 ·have HV:=hid (p_many (.inl z1))
  have q:(ss.length:Int)<1:=by omega
  go_enter Tryz.func141,Tryz.ntmps141
  go_wp2
  go_ret
  exact ⟨by rw [HV.out];rfl,Below.refl _ _⟩
 by_cases z2:24<ss.length
 ·have HV:=hid (p_many (.inr z2))
  have q:¬(ss.length:Int)<1:=by omega
  have q':(24:Int)<(ss.length:Int):=by omega
  go_enter Tryz.func141,Tryz.ntmps141
  go_wp2
  go_ret
  exact ⟨by rw [HV.out];rfl,Below.refl _ _⟩
 have HZ:Hid (¬(ss.length<1∨24<ss.length)):=hid (by omega)
 have q:¬(ss.length:Int)<1:=by omega
 have q':¬(24:Int)<(ss.length:Int):=by omega
 have hl:ss.length≤24:=by omega
 clear z1 z2
 go_enter Tryz.func141,Tryz.ntmps141
 go_wp2
 go_loopw [3,4] (fun x _ wr=>∃i:Nat,x=.int .i64 i∧i≤ss.length∧Hid (firstC (oneC ss) i=0)∧Hid (Below w.heap.size w wr)) (fun x _ _=>ss.length - (intOf x).toNat)
 case atStart=>exact ⟨0,rfl,Nat.zero_le _,hid rfl,hid (Below.refl _ _)⟩
 case round=>
  obtain ⟨i,rfl,hil,HL,HB⟩:=hrel
  by_cases hlt:i<ss.length
  ·have q1:(i:Int)<(ss.length:Int):=by omega
   have HO:=hid (specOne B ss _ i wr hl HSM.out hlt HL.out (HA.out.below HB.out))
   have HBad:=hid (fun (h:oneC ss i≠0)=>p_one HZ.out hlt HL.out h)
   have HNx:=hid (fun (h:oneC ss i=0)=>first_next HL.out h)
   generalize oneC ss i=oc at *
   go_wp2_with fail
   refine HO.out.mono ?_
   rintro e w1 ⟨rfl,hb1⟩
   have hB1:=HB.out.trans (hb1.mono HB.out.size)
   by_cases hz:oc=0
   ·have b1:(oc != 0)=false:=by simp [hz]
    have HN:=hid (HNx.out hz)
    clear hz HO HBad HNx
    go_wp2
    exact ⟨⟨i+1,by simp,by omega,HN,hid hB1⟩,by simp [intOf];omega⟩
   ·have b1:(oc != 0)=true:=bne_iff_ne.2 hz
    have HV:=hid (HBad.out hz)
    clear hz HO HBad HNx
    go_wp2
    go_ret
    exact ⟨by rw [HV.out];rfl,hB1⟩
  ·have hin:i=ss.length:=by omega
   rw [hin] at HL
   clear hin
   have HSh:=hid (specShape B ss _ wr hl HSM.out HL.out (HA.out.below HB.out))
   have H1:=HL
   go_wp2_with fail
   refine HSh.out.mono ?_
   rintro e w1 ⟨rfl,hb1⟩
   have HB1:=hid (HB.out.trans (hb1.mono HB.out.size))
   by_cases hz:firstC (linkC ss) ss.length=0
   ·have b1:(firstC (linkC ss) ss.length != 0)=false:=by simp [hz]
    have H2:=hid hz
    clear hz HSh
    go_wp2
    go_loopw [6,7,8] (fun x _ _ wr=>∃i:Nat,x=.int .i64 i∧i≤ss.length∧Hid (firstC (typC ss) i=0)∧Hid (Below w.heap.size w wr)) (fun x _ _ _=>ss.length - (intOf x).toNat)
    case atStart=>exact ⟨0,rfl,Nat.zero_le _,hid rfl,HB1⟩
    case round=>
     obtain ⟨j,rfl,hjl,HT,HBJ⟩:=hrel
     by_cases hlj:j<ss.length
     ·obtain ⟨g,o,vc,ve,rfl,hg,c0,c1,c2,c3,c4,c5,hvc,hve⟩:=(HA.out.below HBJ.out).at hlj
      obtain ⟨ac,cc,rfl⟩:=hvc.slice
      obtain ⟨ae,ce,rfl⟩:=hve.slice
      have hsi:=HSM.out.at hlj
      have s1:=hsi.2.1
      have s2:=hsi.2.2
      have HC:=hid (specTyped B ss[j].cond _ 2 _ (by omega) hvc)
      have HE:=hid (fun wx (hb:Below wr.heap.size wr wx)=>specTyped B ss[j].expr _ 1 wx (by omega) (hve.below hb))
      have q1:(j:Int)<(ss.length:Int):=by omega
      have htj:typC ss j=if tyC ss[j].cond 2≠0 then tyC ss[j].cond 2 else tyC ss[j].expr 1:=by unfold typC;rw [PJ_eq hlj]
      have HTJ:=hid htj
      have HBad:=hid (fun (h:typC ss j≠0)=>p_typ HZ.out H1.out H2.out hlj HT.out h)
      have HNx:=hid (fun (h:typC ss j=0)=>first_next HT.out h)
      clear hvc hve hsi htj c0 c1 c2 c3
      generalize tyC ss[j].cond 2=t1 at *
      generalize tyC ss[j].expr 1=t2 at *
      go_wp2_with fail
      refine HC.out.mono ?_
      rintro e w2 ⟨rfl,hb2⟩
      have d5:=(hb2.cell (p:=⟨g,o+j*6+5,none⟩) hg).trans c5
      have hg2:g<w2.heap.size:=Nat.lt_of_lt_of_le hg hb2.size
      have HB2:=hid (HBJ.out.trans (hb2.mono HBJ.out.size))
      by_cases hz1:t1=0
      ·have b1:(t1 != 0)=false:=by simp [hz1]
       have HT1:Hid (typC ss j=t2):=hid (by rw [HTJ.out,if_neg (by simp [hz1])])
       have HE2:=hid (HE.out _ hb2)
       clear hz1 HC HE
       go_wp2_with fail
       refine HE2.out.mono ?_
       rintro e w3 ⟨rfl,hb3⟩
       have hB3:=HB2.out.trans (hb3.mono HB2.out.size)
       by_cases hz2:t2=0
       ·have b2:(t2 != 0)=false:=by simp [hz2]
        have HN:=hid (HNx.out (by rw [HT1.out];exact hz2))
        clear hz2 HE2
        go_wp2
        exact ⟨⟨j+1,by simp,by omega,HN,hid hB3⟩,by simp [intOf];omega⟩
       ·have b2:(t2 != 0)=true:=bne_iff_ne.2 hz2
        have HV:=hid (HBad.out (by rw [HT1.out];exact hz2))
        clear hz2 HE2
        go_wp2
        go_ret
        exact ⟨by rw [HV.out,HT1.out];rfl,hB3⟩
      ·have b1:(t1 != 0)=true:=bne_iff_ne.2 hz1
       have HT1:Hid (typC ss j=t1):=hid (by rw [HTJ.out,if_pos hz1])
       have HV:=hid (HBad.out (by rw [HT1.out];exact hz1))
       clear hz1 HC HE
       go_wp2
       go_ret
       exact ⟨by rw [HV.out,HT1.out];rfl,HB2.out⟩
     ·have hjn:j=ss.length:=by omega
      rw [hjn] at HT
      have HV:=hid (p_ok HZ.out H1.out H2.out HT.out)
      clear hjn
      go_wp2
      go_ret
      exact ⟨by rw [HV.out];rfl,HBJ.out⟩
   ·have b1:(firstC (linkC ss) ss.length != 0)=true:=bne_iff_ne.2 hz
    have HV:Hid (pFault ss=firstC (linkC ss) ss.length):=hid (by unfold pFault;rw [if_neg HZ.out,if_neg (by simp [H1.out]),if_pos hz])
    clear hz HSh
    go_wp2
    go_ret
    exact ⟨by rw [HV.out];rfl,HB1.out⟩
end Pf
end Go.Proofs.YtccklgopcjilcaaGreatDoor
/- What the program asks of a step by its rule. -/
namespace Go.Proofs.YtccklgopcjilcaaGreatDoor
open Go.RowKit
set_option linter.unusedVariables false
namespace Pf
open Ex (hid inR eFault typeCode typeVal implExprFault)
open Nd (NodeD)
open St (StepD)
open Tr (nf)
def allowsR (r:RuleD) (s:StepD):Bool:=(r.hn || s.name.toList.isEmpty)&&(decide (0<r.ma) || (s.arg==0))&&(r.he || decide (s.expr.length=0))
def partsR (r:RuleD) (s:StepD):Int:=if r.hn=true∧nf s.name.data.toList≠0 then nf s.name.data.toList else if s.arg<r.la∨r.ma<s.arg then 3 else if r.he=true then eFault s.expr else 0
theorem allows_eq {s:StepD} (h:inR s.kind 1 8=true):allowsR (ruleD s.kind) s=bare s:=by
 unfold allowsR bare
 rcases kinds h with e | e | e | e | e | e | e | e <;> rw [e] <;> simp [rule1,rule2,rule3,rule4,rule5,rule6,rule7,rule8,inR]
theorem parts_eq {s:StepD} (h:inR s.kind 1 8=true) (hb:bare s=true):partsR (ruleD s.kind) s=partC s:=by
 unfold partsR partC argOk
 unfold bare at hb
 rcases kinds h with e | e | e | e | e | e | e | e <;> rw [e] at hb ⊢ <;> simp [inR] at hb
 ·have:=hb.1.2
  simp [rule1,this]
 ·have:=hb.1
  simp [rule2,this]
 ·have:=hb.1.2
  simp [rule3,this]
 ·have:=hb.1.2
  simp [rule4,this]
 ·have e1:(s.arg<0∨9<s.arg)↔inR s.arg 0 9=false:=by rw [Ex.inR_not];omega
  simp [rule5,e1]
 ·have e1:(s.arg<1∨99<s.arg)↔inR s.arg 1 99=false:=by rw [Ex.inR_not];omega
  simp [rule6,e1]
 ·have e1:(s.arg<0∨3<s.arg)↔inR s.arg 0 3=false:=by rw [Ex.inR_not];omega
  simp [rule7,e1]
 ·have e1:(s.arg<1∨99<s.arg)↔inR s.arg 1 99=false:=by rw [Ex.inR_not];omega
  simp [rule8,e1]
theorem parts_nm {r:RuleD} {s:StepD} (h:r.hn=true) (h2:nf s.name.data.toList≠0):partsR r s=nf s.name.data.toList:=by unfold partsR;rw [if_pos ⟨h,h2⟩]
theorem parts_rng {r:RuleD} {s:StepD} (h:¬(r.hn=true∧nf s.name.data.toList≠0)) (h2:s.arg<r.la∨r.ma<s.arg):partsR r s=3:=by unfold partsR;rw [if_neg h,if_pos h2]
theorem parts_ex {r:RuleD} {s:StepD} (h:¬(r.hn=true∧nf s.name.data.toList≠0)) (h2:¬(s.arg<r.la∨r.ma<s.arg)) (h3:r.he=true):partsR r s=eFault s.expr:=by unfold partsR;rw [if_neg h,if_neg h2,if_pos h3]
theorem parts_no {r:RuleD} {s:StepD} (h:¬(r.hn=true∧nf s.name.data.toList≠0)) (h2:¬(s.arg<r.la∨r.ma<s.arg)) (h3:r.he=false):partsR r s=0:=by unfold partsR;rw [if_neg h,if_neg h2,if_neg (by simp [h3])]
set_option maxRecDepth 100000 in
set_option maxHeartbeats 1000000 in
theorem hasArg (r:RuleD) (w:World):Calls Tryz.prog 231 #[.agg #[.string r.word,.bool r.hn,.bool r.he,.int .i64 r.la,.int .i64 r.ma,.int .i64 r.lk,.int .i64 r.mx]] w fun e w'=>e=.returned (.bool (decide (0<r.ma)))∧Below w.heap.size w w':=by
 go_enter Tryz.func231,Tryz.ntmps231
 go_wp2
 go_ret
 exact ⟨rfl,(Below.refl _ w).alloc (Nat.le_refl _) _⟩
set_option maxRecDepth 100000 in
set_option maxHeartbeats 8000000 in
theorem allows (r:RuleD) (s:StepD) (vc:Value) (a:Option Addr) (n cap:Nat) (w:World) (hn:n=s.expr.length) (hl:n≤1048576) (hvc:∃x y z,vc=.slice x y z):
    Calls Tryz.prog 192 #[.agg #[.string r.word,.bool r.hn,.bool r.he,.int .i64 r.la,.int .i64 r.ma,.int .i64 r.lk,.int .i64 r.mx],.agg #[.int .i64 s.kind,.int .i64 s.parent,.string s.name,.int .i64 s.arg,vc,.slice a n cap]] w fun e w'=>e=.returned (.bool (allowsR r s))∧Below w.heap.size w w':=by
 obtain ⟨vx,vy,vz,rfl⟩:=hvc
 have HA:=hid (fun w'=>hasArg r w')
 have HB:Hid (Below w.heap.size w ((w.alloc (.cells #[.string r.word,.bool r.hn,.bool r.he,.int .i64 r.la,.int .i64 r.ma,.int .i64 r.lk,.int .i64 r.mx] 255)).alloc (.cells #[.int .i64 s.kind,.int .i64 s.parent,.string s.name,.int .i64 s.arg,.slice vx vy vz,.slice a n cap] 164))):=hid (((Below.refl _ w).alloc (Nat.le_refl _) _).alloc (by simp) _)
 unfold allowsR
 rw [←hn]
 clear hn
 have hE:decide (n=0)=((n:Int)==0):=by
  by_cases h:n=0
  ·simp [h]
  ·have:((n:Int)==0)=false:=beq_eq_false_iff_ne.2 (by omega)
   simp [h,this]
 rw [hE]
 clear hE
 generalize s.kind=kind at *
 generalize s.parent=par at *
 generalize s.name=nm at *
 generalize s.arg=arg at *
 obtain ⟨word,hn,he,la,ma,lk,mx⟩:=r
 simp only at HA HB ⊢
 cases hn
 ·cases b2:nm.toList.isEmpty
  ·skip
   go_enter Tryz.func192,Tryz.ntmps192
   go_wp2
   go_ret
   exact ⟨by simp [*],HB.out⟩
  ·skip
   go_enter Tryz.func192,Tryz.ntmps192
   go_wp2_with fail
   refine (HA.out _).mono ?_
   rintro e w1 ⟨rfl,hb1⟩
   have hz1:=hb1.size
   simp only [World.size_alloc] at hz1
   have l0:w.heap.size<w1.heap.size:=by omega
   have l1:w.heap.size+1<w1.heap.size:=by omega
   have r0:=(hb1.cell (p:=⟨w.heap.size,2,none⟩) (by simp;omega)).trans (show _=some (.bool he) by go_simp)
   have r1:=(hb1.cell (p:=⟨w.heap.size+1,3,none⟩) (by simp)).trans (show _=some (.int .i64 arg) by go_simp)
   have r2:=(hb1.cell (p:=⟨w.heap.size+1,5,none⟩) (by simp)).trans (show _=some (.slice a n cap) by go_simp)
   have HB1:=hid (HB.out.trans (hb1.mono HB.out.size))
   clear HA HB hb1
   by_cases m:0<ma
   ·have m1:decide (0<ma)=true:=by simp [m]
    cases he
    ·cases b6:((n:Int)==0)
     ·skip
      go_wp2
      go_ret
      exact ⟨by simp [*],HB1.out⟩
     ·skip
      go_wp2
      go_ret
      exact ⟨by simp [*],HB1.out⟩
    ·skip
     go_wp2
     go_ret
     exact ⟨by simp [*],HB1.out⟩
   ·have m1:decide (0<ma)=false:=by simp [m]
    cases b4:(arg==0)
    ·skip
     go_wp2
     go_ret
     exact ⟨by simp [*],HB1.out⟩
    cases he
    ·cases b6:((n:Int)==0)
     ·skip
      go_wp2
      go_ret
      exact ⟨by simp [*],HB1.out⟩
     ·skip
      go_wp2
      go_ret
      exact ⟨by simp [*],HB1.out⟩
    ·skip
     go_wp2
     go_ret
     exact ⟨by simp [*],HB1.out⟩
 ·skip
  go_enter Tryz.func192,Tryz.ntmps192
  go_wp2_with fail
  refine (HA.out _).mono ?_
  rintro e w1 ⟨rfl,hb1⟩
  have hz1:=hb1.size
  simp only [World.size_alloc] at hz1
  have l0:w.heap.size<w1.heap.size:=by omega
  have l1:w.heap.size+1<w1.heap.size:=by omega
  have r0:=(hb1.cell (p:=⟨w.heap.size,2,none⟩) (by simp;omega)).trans (show _=some (.bool he) by go_simp)
  have r1:=(hb1.cell (p:=⟨w.heap.size+1,3,none⟩) (by simp)).trans (show _=some (.int .i64 arg) by go_simp)
  have r2:=(hb1.cell (p:=⟨w.heap.size+1,5,none⟩) (by simp)).trans (show _=some (.slice a n cap) by go_simp)
  have HB1:=hid (HB.out.trans (hb1.mono HB.out.size))
  clear HA HB hb1
  by_cases m:0<ma
  ·have m1:decide (0<ma)=true:=by simp [m]
   cases he
   ·cases b6:((n:Int)==0)
    ·skip
     go_wp2
     go_ret
     exact ⟨by simp [*],HB1.out⟩
    ·skip
     go_wp2
     go_ret
     exact ⟨by simp [*],HB1.out⟩
   ·skip
    go_wp2
    go_ret
    exact ⟨by simp [*],HB1.out⟩
  ·have m1:decide (0<ma)=false:=by simp [m]
   cases b4:(arg==0)
   ·skip
    go_wp2
    go_ret
    exact ⟨by simp [*],HB1.out⟩
   cases he
   ·cases b6:((n:Int)==0)
    ·skip
     go_wp2
     go_ret
     exact ⟨by simp [*],HB1.out⟩
    ·skip
     go_wp2
     go_ret
     exact ⟨by simp [*],HB1.out⟩
   ·skip
    go_wp2
    go_ret
    exact ⟨by simp [*],HB1.out⟩
set_option maxRecDepth 100000 in
set_option maxHeartbeats 8000000 in
theorem partsFault (r:RuleD) (s:StepD) (vc:Value) (a:Option Addr) (cap B:Nat) (w:World) (hl:s.expr.length≤1048576) (hn:s.name.size≤maxLen) (hvc:∃x y z,vc=.slice x y z) (hve:Nd.At w B (.slice a s.expr.length cap) s.expr):
    Calls Tryz.prog 194 #[.agg #[.string r.word,.bool r.hn,.bool r.he,.int .i64 r.la,.int .i64 r.ma,.int .i64 r.lk,.int .i64 r.mx],.agg #[.int .i64 s.kind,.int .i64 s.parent,.string s.name,.int .i64 s.arg,vc,.slice a s.expr.length cap]] w fun e w'=>e=.returned (.int .i64 (partsR r s))∧Below w.heap.size w w':=by
 obtain ⟨vx,vy,vz,rfl⟩:=hvc
 have hB:Below w.heap.size w ((w.alloc (.cells #[.string r.word,.bool r.hn,.bool r.he,.int .i64 r.la,.int .i64 r.ma,.int .i64 r.lk,.int .i64 r.mx] 255)).alloc (.cells #[.int .i64 s.kind,.int .i64 s.parent,.string s.name,.int .i64 s.arg,.slice vx vy vz,.slice a s.expr.length cap] 164)):=((Below.refl _ w).alloc (Nat.le_refl _) _).alloc (by simp) _
 have HX:=hid (implExprFault B s.expr _ _ hl (hve.below hB))
 have HN:=hid (fun w'=>Tr.impl_nf s.name w' hn)
 have HB:=hid hB
 clear hB hve hn
 have F1:=hid (parts_nm (r:=r) (s:=s))
 have F2:=hid (parts_rng (r:=r) (s:=s))
 have F3:=hid (parts_ex (r:=r) (s:=s))
 have F4:=hid (parts_no (r:=r) (s:=s))
 generalize partsR r s=pr at *
 generalize eFault s.expr=ef at *
 generalize nf s.name.data.toList=nc at *
 generalize s.expr.length=n at *
 generalize s.kind=kind at *
 generalize s.parent=par at *
 generalize s.name=nm at *
 generalize s.arg=arg at *
 obtain ⟨word,hn,he,la,ma,lk,mx⟩:=r
 simp only at HX HN HB F1 F2 F3 F4 ⊢
 cases hn
 ·skip
  by_cases z1:arg<la
  ·skip
   have HV:=hid (F2.out (by simp) (.inl z1))
   clear F1 F2 F3 F4
   go_enter Tryz.func194,Tryz.ntmps194
   go_wp2
   go_ret
   exact ⟨by rw [HV.out];rfl,HB.out⟩
  by_cases z2:ma<arg
  ·skip
   have HV:=hid (F2.out (by simp) (.inr z2))
   clear F1 F2 F3 F4
   go_enter Tryz.func194,Tryz.ntmps194
   go_wp2
   go_ret
   exact ⟨by rw [HV.out];rfl,HB.out⟩
  cases he
  ·skip
   have HV:=hid (F4.out (by simp) (by omega) rfl)
   clear F1 F2 F3 F4
   go_enter Tryz.func194,Tryz.ntmps194
   go_wp2
   go_ret
   exact ⟨by rw [HV.out];rfl,HB.out⟩
  ·skip
   have HV:=hid (F3.out (by simp) (by omega) rfl)
   clear F1 F2 F3 F4
   go_enter Tryz.func194,Tryz.ntmps194
   go_wp2_with (first | (go_at_call 197;refine HX.out.mono ?_;rintro e w2 ⟨rfl,hb2⟩))
   go_ret
   exact ⟨by rw [HV.out];rfl,HB.out.trans (hb2.mono HB.out.size)⟩
 ·by_cases hz:nc=0
  ·have b1:(nc != 0)=false:=by simp [hz]
   by_cases z1:arg<la
   ·skip
    have HV:=hid (F2.out (by simp [hz]) (.inl z1))
    clear F1 F2 F3 F4
    go_enter Tryz.func194,Tryz.ntmps194
    go_wp2_with (first | (go_at_call 233;refine (HN.out _).mono ?_;rintro e w1 ⟨rfl,hw1⟩;replace hw1:=hw1.symm;subst hw1))
    go_ret
    exact ⟨by rw [HV.out];rfl,HB.out⟩
   by_cases z2:ma<arg
   ·skip
    have HV:=hid (F2.out (by simp [hz]) (.inr z2))
    clear F1 F2 F3 F4
    go_enter Tryz.func194,Tryz.ntmps194
    go_wp2_with (first | (go_at_call 233;refine (HN.out _).mono ?_;rintro e w1 ⟨rfl,hw1⟩;replace hw1:=hw1.symm;subst hw1))
    go_ret
    exact ⟨by rw [HV.out];rfl,HB.out⟩
   cases he
   ·skip
    have HV:=hid (F4.out (by simp [hz]) (by omega) rfl)
    clear F1 F2 F3 F4
    go_enter Tryz.func194,Tryz.ntmps194
    go_wp2_with (first | (go_at_call 233;refine (HN.out _).mono ?_;rintro e w1 ⟨rfl,hw1⟩;replace hw1:=hw1.symm;subst hw1))
    go_ret
    exact ⟨by rw [HV.out];rfl,HB.out⟩
   ·skip
    have HV:=hid (F3.out (by simp [hz]) (by omega) rfl)
    clear F1 F2 F3 F4
    go_enter Tryz.func194,Tryz.ntmps194
    go_wp2_with (first | (go_at_call 233;refine (HN.out _).mono ?_;rintro e w1 ⟨rfl,hw1⟩;replace hw1:=hw1.symm;subst hw1) | (go_at_call 197;refine HX.out.mono ?_;rintro e w2 ⟨rfl,hb2⟩))
    go_ret
    exact ⟨by rw [HV.out];rfl,HB.out.trans (hb2.mono HB.out.size)⟩
  ·have b1:(nc != 0)=true:=bne_iff_ne.2 hz
   have HV:=hid (F1.out rfl hz)
   clear F1 F2 F3 F4
   go_enter Tryz.func194,Tryz.ntmps194
   go_wp2_with (first | (go_at_call 233;refine (HN.out _).mono ?_;rintro e w1 ⟨rfl,hw1⟩;replace hw1:=hw1.symm;subst hw1))
   go_ret
   exact ⟨by rw [HV.out];rfl,HB.out⟩
end Pf
end Go.Proofs.YtccklgopcjilcaaGreatDoor
