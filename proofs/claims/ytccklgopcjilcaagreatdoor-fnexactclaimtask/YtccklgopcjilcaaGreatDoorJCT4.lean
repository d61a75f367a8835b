/- Laid together: ExE, PfM. -/
import Derived.Test.YtccklgopcjilcaaGreatDoorJCT3
import Derived.Test.YtccklgopcjilcaaGreatDoorJCT2
/- The specification's TypeOf. -/
namespace Go.Proofs.YtccklgopcjilcaaGreatDoor
open Go.RowKit
set_option linter.unusedVariables false
namespace Ex
open Nd (NodeD)
def tyOf (k:Int):Int:=if 7≤k then 2 else 1
def wantOf (k:Int):Int:=if k=9∨k=10 then 2 else 1
def ty (ns:List NodeD) (j:Nat):Int:=tyOf (NJ ns j).kind
def badAt (ns:List NodeD) (i:Nat):Bool:=(decide (2<(NJ ns i).kind)&&(ty ns (NJ ns i).left.toNat != wantOf (NJ ns i).kind)) || (two (NJ ns i).kind&&(ty ns (NJ ns i).right.toNat != wantOf (NJ ns i).kind))
def tOk (ns:List NodeD):Bool:=(List.range ns.length).all (fun j=>!badAt ns j)
def typeCode (ns:List NodeD):Int:=if eFault ns≠0 then eFault ns else if tOk ns=true then 0 else 7
def typeVal (ns:List NodeD):Int:=if typeCode ns=0 then ty ns (ns.length - 1) else 0
theorem tOk_bad {ns:List NodeD} {i:Nat} (hi:i<ns.length) (h:badAt ns i=true):tOk ns=false:=by
 unfold tOk
 rw [List.all_eq_false]
 exact ⟨i,by simpa using hi,by simp [h]⟩
theorem tOk_all {ns:List NodeD} (h:∀j,j<ns.length→badAt ns j=false):tOk ns=true:=by
 unfold tOk
 rw [List.all_eq_true]
 intro j hj
 rw [h j (by simpa using hj)]
 rfl
theorem ty_fault {ns:List NodeD} (h:eFault ns≠0):typeCode ns=eFault ns∧typeVal ns=0:=by
 have e:typeCode ns=eFault ns:=by unfold typeCode;rw [if_pos h]
 exact ⟨e,by unfold typeVal;rw [if_neg (by rw [e];exact h)]⟩
theorem ty_bad {ns:List NodeD} (h:eFault ns=0) (h2:tOk ns=false):typeCode ns=7∧typeVal ns=0:=by
 have e:typeCode ns=7:=by unfold typeCode;rw [if_neg (by simp [h]),if_neg (by simp [h2])]
 exact ⟨e,by unfold typeVal;rw [if_neg (by rw [e];decide)]⟩
theorem ty_ok {ns:List NodeD} (h:eFault ns=0) (h2:tOk ns=true):typeCode ns=0∧typeVal ns=ty ns (ns.length - 1):=by
 have e:typeCode ns=0:=by unfold typeCode;rw [if_neg (by simp [h]),if_pos h2]
 exact ⟨e,by unfold typeVal;rw [if_pos e]⟩
theorem of_e {ns:List NodeD} (h:eFault ns=0):0<ns.length∧ns.length≤16∧∀k,k<ns.length→nCode (NJ ns k) k=0:=by
 by_cases z:ns.length<1∨16<ns.length
 ·rw [e_many z] at h;omega
 ·refine ⟨by omega,by omega,?_⟩
  unfold eFault at h
  rw [if_neg z] at h
  by_cases h2:eCodeTo ns ns.length≠0
  ·rw [if_pos h2] at h;exact absurd h h2
  ·exact code_all (by simpa using h2)
def tyVals (ns:List NodeD) (i:Nat):List Value:=(List.range i).map fun j=>.int .i64 (ty ns j)
theorem tyVals_len (ns:List NodeD) (i:Nat):(tyVals ns i).length=i:=by simp [tyVals]
theorem tyVals_succ (ns:List NodeD) (i:Nat):tyVals ns (i+1)=tyVals ns i++[.int .i64 (ty ns i)]:=by simp [tyVals,List.range_succ]
theorem ty_cell {w:World} {base g cap i j:Nat} {e:TypeId} {ns:List NodeD} (h:w.ownsRow base e 1 (.slice (some ⟨g,0,none⟩) i cap) i (tyVals ns i)) (hj:j<i):w.cell? ⟨g,j,none⟩=some (.int .i64 (ty ns j)):=by
 have h1:=owns_cell h hj (by rw [tyVals_len];exact hj)
 simpa [tyVals] using h1
theorem owns_some {w:World} {base n cap:Nat} {e:TypeId} {a:Option Addr} {xs:List Value} (h:w.ownsRow base e 1 (.slice a n cap) n xs) (hn:0<n):∃g,a=some ⟨g,0,none⟩∧g<w.heap.size:=by
 obtain ⟨_,⟨e1,e2⟩ | ⟨g',cap',cur,e1,_,hg,_⟩⟩:=h
 ·omega
 ·cases e1;exact ⟨g',rfl,(Array.getElem?_eq_some_iff.1 hg).1⟩
theorem cell_one (w:World) (b:Nat) (hb:b=w.heap.size) (x:Value) (t:TypeId):∀j u,[x][j]?=some u→(w.alloc (.cells #[x] t)).cell? ((⟨b,0,none⟩:Addr).add j)=some u:=by
 subst hb
 exact cell_one_new w x t
set_option maxRecDepth 100000 in
set_option maxHeartbeats 8000000 in
theorem specTypes (B:Nat) (ns:List NodeD) (v:Value) (w:World) (hl:ns.length≤16) (hok:∀k,k<ns.length→nCode (NJ ns k) k=0) (ha:Nd.At w B v ns):
    Calls Tryz.prog 246 #[v] w fun e w'=>(∃u,e=.returned (.tuple #[u,.bool (tOk ns)])∧(tOk ns=true→w'.ownsRow w.heap.size 2 1 u ns.length (tyVals ns ns.length)))∧Below w.heap.size w w':=by
 obtain ⟨a,cap,rfl⟩:=ha.slice
 have HA:=hid ha
 have HN:=hid hok
 clear ha hok
 obtain ⟨j0,hj,hy0,hy1,hy2⟩:=info_parts infoI64
 go_enter Tryz.func246,Tryz.ntmps246
 go_wp2
 go_loopw [4,5,6,7,8] (fun t x _ _ _ wr=>∃(i:Nat),x=.int .i64 i∧i≤ns.length∧(∃a5 c5,t=.slice a5 i c5)∧Hid (wr.ownsRow w.heap.size 2 1 t i (tyVals ns i))∧Hid (∀j,j<i→badAt ns j=false)∧Below w.heap.size w wr) (fun _ x _ _ _ _=>ns.length - (intOf x).toNat)
 case atStart=>exact ⟨0,rfl,Nat.zero_le _,⟨_,_,rfl⟩,World.ownsRow_made w #[] 0 (Nat.le_refl _) (by unfold maxLen;omega) rfl,hid (fun j h=>by omega),(Below.refl _ w).alloc (Nat.le_refl _) _⟩
 case round=>
  obtain ⟨i,rfl,hi,⟨a5,c5,rfl⟩,HO,HB,hbel⟩:=hrel
  have hz:=hbel.size
  by_cases hlt:i<ns.length
  ·obtain ⟨g,o,rfl,hg,c0,c1,c2,c3⟩:=(HA.out.below hbel).at hlt
   have q1:(i:Int)<(ns.length:Int):=by omega
   have hn:=HN.out i hlt
   have HNJ:=hid (NJ_eq hlt)
   rw [HNJ.out] at hn
   have HT:=hid (fun w'=>specTwo ns[i].kind w')
   have HBI:Hid (badAt ns i=((decide (2<ns[i].kind)&&(ty ns ns[i].left.toNat != wantOf ns[i].kind)) || (two ns[i].kind&&(ty ns ns[i].right.toNat != wantOf ns[i].kind)))):=hid (by unfold badAt;rw [HNJ.out])
   have HTI:Hid (ty ns i=tyOf ns[i].kind):=hid (by unfold ty;rw [HNJ.out])
   have hkd:=inR_iff.1 (of_n hn).1
   have hown:=HO.out
   have HBS:Hid (badAt ns i=false→∀j,j<i+1→badAt ns j=false):=hid (fun h j hj=>by
    by_cases e:j=i
    ·rw [e];exact h
    ·exact HB.out j (by omega))
   have HSU:=hid (tyVals_succ ns i)
   by_cases k2:2<ns[i].kind
   ·have hnl:=n_left hn k2
    obtain ⟨l,hle⟩:∃l:Nat,ns[i].left=(l:Int):=⟨ns[i].left.toNat,by omega⟩
    have hli:l<i:=by omega
    obtain ⟨g5,rfl,hg5⟩:=owns_some hown (by omega)
    have m1:=ty_cell hown hli
    have ql:(l:Int)<(i:Int):=by omega
    have HLN:Hid (ns[i].left.toNat=l):=hid (by rw [hle];simp)
    rw [HLN.out] at HBI
    rw [hle] at c2
    clear hnl hle
    generalize ty ns l=tl at *
    by_cases k7:7≤ns[i].kind
    ·by_cases k9:ns[i].kind=9
     ·have t9:(ns[i].kind==9)=true:=beq_iff_eq.2 k9
      have ht:two ns[i].kind=true:=inR_iff.2 (by omega)
      have hw:wantOf ns[i].kind=2:=by unfold wantOf;rw [if_pos (by omega)]
      have hnr:=n_right hn ht
      obtain ⟨r,hre⟩:∃r:Nat,ns[i].right=(r:Int):=⟨ns[i].right.toNat,by omega⟩
      have hri:r<i:=by omega
      have m2:=ty_cell hown hri
      have qr:(r:Int)<(i:Int):=by omega
      have HRN:Hid (ns[i].right.toNat=r):=hid (by rw [hre];simp)
      rw [HRN.out,hw,ht] at HBI
      rw [ht] at HT
      rw [hre] at c3
      clear hnr hre ht hw HRN HLN
      generalize ty ns r=tr at *
      cases e1:(tl != 2)
      ·cases e2:(tr != 2)
       ·skip
        have HB0:Hid (badAt ns i=false):=hid (by rw [HBI.out,e1,e2];simp)
        have HTV:Hid (ty ns i=2):=hid (by rw [HTI.out];unfold tyOf;rw [if_pos (by omega)])
        clear hn HBI HTI hkd k9
        generalize ns[i]=nd at *
        go_wp2_with (first | (go_at_call 259;refine (HT.out _).mono ?_;rintro e w2 ⟨rfl,rfl⟩) | (at_builtin;go_must (refine wpList_append_own _ rfl _ _ 110 rfl w.heap.size 2 j0 (.int .i64 0) 1 8 Tryz.underlying110 hj hy0 hy1 hy2 rfl (by decide) _ _ _ rfl ((hown.alloc _).alloc _) ⟨_,0,none⟩ 1 1 [.int .i64 2] rfl rfl (cell_one _ _ (by simp) _ _) (by simp [Value.oneCell']) (by unfold maxLen;omega) (by first | omega | (simp;omega)) (by first | omega | (simp;omega)) ?_);intro v' w3 hown' hgrow _;obtain ⟨g9,c9,rfl⟩:=ownsRow_succ hown'))
        have hB3:Below w.heap.size w w3:=((hbel.alloc hz _).alloc (by simp;omega) _).grown hgrow (by simp;omega) (fun b e=>(own_lt hown e).1)
        refine ⟨⟨i+1,by simp,by omega,⟨_,_,rfl⟩,hid ?_,hid (HBS.out HB0.out),hB3⟩,by simp [intOf];omega⟩
        rw [HSU.out,HTV.out]
        exact hown'
       ·skip
        have HB0:Hid (badAt ns i=true):=hid (by rw [HBI.out,e2];simp)
        have HV:=hid (tOk_bad hlt HB0.out)
        clear hn HBI HTI hkd k9
        generalize ns[i]=nd at *
        go_wp2_with (first | (go_at_call 259;refine (HT.out _).mono ?_;rintro e w2 ⟨rfl,rfl⟩))
        go_ret2
        exact ⟨⟨_,by rw [HV.out];rfl,fun h=>by rw [HV.out] at h;cases h⟩,hbel.alloc hz _⟩
      ·skip
       have HB0:Hid (badAt ns i=true):=hid (by rw [HBI.out,e1];simp [k2])
       have HV:=hid (tOk_bad hlt HB0.out)
       clear hn HBI HTI hkd k9
       generalize ns[i]=nd at *
       go_wp2_with (first | (go_at_call 259;refine (HT.out _).mono ?_;rintro e w2 ⟨rfl,rfl⟩))
       go_ret2
       exact ⟨⟨_,by rw [HV.out];rfl,fun h=>by rw [HV.out] at h;cases h⟩,hbel.alloc hz _⟩
     ·have t9:(ns[i].kind==9)=false:=beq_eq_false_iff_ne.2 k9
      by_cases k10:ns[i].kind=10
      ·have t10:(ns[i].kind==10)=true:=beq_iff_eq.2 k10
       have ht:two ns[i].kind=false:=inR_not.2 (by omega)
       have hw:wantOf ns[i].kind=2:=by unfold wantOf;rw [if_pos (by omega)]
       rw [hw,ht] at HBI
       rw [ht] at HT
       clear ht hw HLN
       cases e1:(tl != 2)
       ·skip
        have HB0:Hid (badAt ns i=false):=hid (by rw [HBI.out,e1];simp)
        have HTV:Hid (ty ns i=2):=hid (by rw [HTI.out];unfold tyOf;rw [if_pos (by omega)])
        clear hn HBI HTI hkd k10 k9
        generalize ns[i]=nd at *
        go_wp2_with (first | (go_at_call 259;refine (HT.out _).mono ?_;rintro e w2 ⟨rfl,rfl⟩) | (at_builtin;go_must (refine wpList_append_own _ rfl _ _ 110 rfl w.heap.size 2 j0 (.int .i64 0) 1 8 Tryz.underlying110 hj hy0 hy1 hy2 rfl (by decide) _ _ _ rfl ((hown.alloc _).alloc _) ⟨_,0,none⟩ 1 1 [.int .i64 2] rfl rfl (cell_one _ _ (by simp) _ _) (by simp [Value.oneCell']) (by unfold maxLen;omega) (by first | omega | (simp;omega)) (by first | omega | (simp;omega)) ?_);intro v' w3 hown' hgrow _;obtain ⟨g9,c9,rfl⟩:=ownsRow_succ hown'))
        have hB3:Below w.heap.size w w3:=((hbel.alloc hz _).alloc (by simp;omega) _).grown hgrow (by simp;omega) (fun b e=>(own_lt hown e).1)
        refine ⟨⟨i+1,by simp,by omega,⟨_,_,rfl⟩,hid ?_,hid (HBS.out HB0.out),hB3⟩,by simp [intOf];omega⟩
        rw [HSU.out,HTV.out]
        exact hown'
       ·skip
        have HB0:Hid (badAt ns i=true):=hid (by rw [HBI.out,e1];simp [k2])
        have HV:=hid (tOk_bad hlt HB0.out)
        clear hn HBI HTI hkd k10 k9
        generalize ns[i]=nd at *
        go_wp2_with (first | (go_at_call 259;refine (HT.out _).mono ?_;rintro e w2 ⟨rfl,rfl⟩))
        go_ret2
        exact ⟨⟨_,by rw [HV.out];rfl,fun h=>by rw [HV.out] at h;cases h⟩,hbel.alloc hz _⟩
      ·have t10:(ns[i].kind==10)=false:=beq_eq_false_iff_ne.2 k10
       have ht:two ns[i].kind=true:=inR_iff.2 (by omega)
       have hw:wantOf ns[i].kind=1:=by unfold wantOf;rw [if_neg (by omega)]
       have hnr:=n_right hn ht
       obtain ⟨r,hre⟩:∃r:Nat,ns[i].right=(r:Int):=⟨ns[i].right.toNat,by omega⟩
       have hri:r<i:=by omega
       have m2:=ty_cell hown hri
       have qr:(r:Int)<(i:Int):=by omega
       have HRN:Hid (ns[i].right.toNat=r):=hid (by rw [hre];simp)
       rw [HRN.out,hw,ht] at HBI
       rw [ht] at HT
       rw [hre] at c3
       clear hnr hre ht hw HRN HLN
       generalize ty ns r=tr at *
       cases e1:(tl != 1)
       ·cases e2:(tr != 1)
        ·skip
         have HB0:Hid (badAt ns i=false):=hid (by rw [HBI.out,e1,e2];simp)
         have HTV:Hid (ty ns i=2):=hid (by rw [HTI.out];unfold tyOf;rw [if_pos (by omega)])
         clear hn HBI HTI hkd k9 k10
         generalize ns[i]=nd at *
         go_wp2_with (first | (go_at_call 259;refine (HT.out _).mono ?_;rintro e w2 ⟨rfl,rfl⟩) | (at_builtin;go_must (refine wpList_append_own _ rfl _ _ 110 rfl w.heap.size 2 j0 (.int .i64 0) 1 8 Tryz.underlying110 hj hy0 hy1 hy2 rfl (by decide) _ _ _ rfl ((hown.alloc _).alloc _) ⟨_,0,none⟩ 1 1 [.int .i64 2] rfl rfl (cell_one _ _ (by simp) _ _) (by simp [Value.oneCell']) (by unfold maxLen;omega) (by first | omega | (simp;omega)) (by first | omega | (simp;omega)) ?_);intro v' w3 hown' hgrow _;obtain ⟨g9,c9,rfl⟩:=ownsRow_succ hown'))
         have hB3:Below w.heap.size w w3:=((hbel.alloc hz _).alloc (by simp;omega) _).grown hgrow (by simp;omega) (fun b e=>(own_lt hown e).1)
         refine ⟨⟨i+1,by simp,by omega,⟨_,_,rfl⟩,hid ?_,hid (HBS.out HB0.out),hB3⟩,by simp [intOf];omega⟩
         rw [HSU.out,HTV.out]
         exact hown'
        ·skip
         have HB0:Hid (badAt ns i=true):=hid (by rw [HBI.out,e2];simp)
         have HV:=hid (tOk_bad hlt HB0.out)
         clear hn HBI HTI hkd k9 k10
         generalize ns[i]=nd at *
         go_wp2_with (first | (go_at_call 259;refine (HT.out _).mono ?_;rintro e w2 ⟨rfl,rfl⟩))
         go_ret2
         exact ⟨⟨_,by rw [HV.out];rfl,fun h=>by rw [HV.out] at h;cases h⟩,hbel.alloc hz _⟩
       ·skip
        have HB0:Hid (badAt ns i=true):=hid (by rw [HBI.out,e1];simp [k2])
        have HV:=hid (tOk_bad hlt HB0.out)
        clear hn HBI HTI hkd k9 k10
        generalize ns[i]=nd at *
        go_wp2_with (first | (go_at_call 259;refine (HT.out _).mono ?_;rintro e w2 ⟨rfl,rfl⟩))
        go_ret2
        exact ⟨⟨_,by rw [HV.out];rfl,fun h=>by rw [HV.out] at h;cases h⟩,hbel.alloc hz _⟩
    ·have t9:(ns[i].kind==9)=false:=beq_eq_false_iff_ne.2 (by omega)
     have t10:(ns[i].kind==10)=false:=beq_eq_false_iff_ne.2 (by omega)
     have ht:two ns[i].kind=true:=inR_iff.2 (by omega)
     have hw:wantOf ns[i].kind=1:=by unfold wantOf;rw [if_neg (by omega)]
     have hnr:=n_right hn ht
     obtain ⟨r,hre⟩:∃r:Nat,ns[i].right=(r:Int):=⟨ns[i].right.toNat,by omega⟩
     have hri:r<i:=by omega
     have m2:=ty_cell hown hri
     have qr:(r:Int)<(i:Int):=by omega
     have HRN:Hid (ns[i].right.toNat=r):=hid (by rw [hre];simp)
     rw [HRN.out,hw,ht] at HBI
     rw [ht] at HT
     rw [hre] at c3
     clear hnr hre ht hw HRN HLN
     generalize ty ns r=tr at *
     cases e1:(tl != 1)
     ·cases e2:(tr != 1)
      ·skip
       have HB0:Hid (badAt ns i=false):=hid (by rw [HBI.out,e1,e2];simp)
       have HTV:Hid (ty ns i=1):=hid (by rw [HTI.out];unfold tyOf;rw [if_neg (by omega)])
       clear hn HBI HTI hkd
       generalize ns[i]=nd at *
       go_wp2_with (first | (go_at_call 259;refine (HT.out _).mono ?_;rintro e w2 ⟨rfl,rfl⟩) | (at_builtin;go_must (refine wpList_append_own _ rfl _ _ 110 rfl w.heap.size 2 j0 (.int .i64 0) 1 8 Tryz.underlying110 hj hy0 hy1 hy2 rfl (by decide) _ _ _ rfl ((hown.alloc _).alloc _) ⟨_,0,none⟩ 1 1 [.int .i64 1] rfl rfl (cell_one _ _ (by simp) _ _) (by simp [Value.oneCell']) (by unfold maxLen;omega) (by first | omega | (simp;omega)) (by first | omega | (simp;omega)) ?_);intro v' w3 hown' hgrow _;obtain ⟨g9,c9,rfl⟩:=ownsRow_succ hown'))
       have hB3:Below w.heap.size w w3:=((hbel.alloc hz _).alloc (by simp;omega) _).grown hgrow (by simp;omega) (fun b e=>(own_lt hown e).1)
       refine ⟨⟨i+1,by simp,by omega,⟨_,_,rfl⟩,hid ?_,hid (HBS.out HB0.out),hB3⟩,by simp [intOf];omega⟩
       rw [HSU.out,HTV.out]
       exact hown'
      ·skip
       have HB0:Hid (badAt ns i=true):=hid (by rw [HBI.out,e2];simp)
       have HV:=hid (tOk_bad hlt HB0.out)
       clear hn HBI HTI hkd
       generalize ns[i]=nd at *
       go_wp2_with (first | (go_at_call 259;refine (HT.out _).mono ?_;rintro e w2 ⟨rfl,rfl⟩))
       go_ret2
       exact ⟨⟨_,by rw [HV.out];rfl,fun h=>by rw [HV.out] at h;cases h⟩,hbel.alloc hz _⟩
     ·skip
      have HB0:Hid (badAt ns i=true):=hid (by rw [HBI.out,e1];simp [k2])
      have HV:=hid (tOk_bad hlt HB0.out)
      clear hn HBI HTI hkd
      generalize ns[i]=nd at *
      go_wp2_with (first | (go_at_call 259;refine (HT.out _).mono ?_;rintro e w2 ⟨rfl,rfl⟩))
      go_ret2
      exact ⟨⟨_,by rw [HV.out];rfl,fun h=>by rw [HV.out] at h;cases h⟩,hbel.alloc hz _⟩
   ·have t9:(ns[i].kind==9)=false:=beq_eq_false_iff_ne.2 (by omega)
    have t10:(ns[i].kind==10)=false:=beq_eq_false_iff_ne.2 (by omega)
    have k7:¬7≤ns[i].kind:=by omega
    have ht:two ns[i].kind=false:=inR_not.2 (by omega)
    rw [ht] at HBI
    rw [ht] at HT
    have HB0:Hid (badAt ns i=false):=hid (by rw [HBI.out];simp [k2])
    have HTV:Hid (ty ns i=1):=hid (by rw [HTI.out];unfold tyOf;rw [if_neg (by omega)])
    clear hn HBI HTI hkd ht
    generalize ns[i]=nd at *
    go_wp2_with (first | (go_at_call 259;refine (HT.out _).mono ?_;rintro e w2 ⟨rfl,rfl⟩) | (at_builtin;go_must (refine wpList_append_own _ rfl _ _ 110 rfl w.heap.size 2 j0 (.int .i64 0) 1 8 Tryz.underlying110 hj hy0 hy1 hy2 rfl (by decide) _ _ _ rfl ((hown.alloc _).alloc _) ⟨_,0,none⟩ 1 1 [.int .i64 1] rfl rfl (cell_one _ _ (by simp) _ _) (by simp [Value.oneCell']) (by unfold maxLen;omega) (by first | omega | (simp;omega)) (by first | omega | (simp;omega)) ?_);intro v' w3 hown' hgrow _;obtain ⟨g9,c9,rfl⟩:=ownsRow_succ hown'))
    have hB3:Below w.heap.size w w3:=((hbel.alloc hz _).alloc (by simp;omega) _).grown hgrow (by simp;omega) (fun b e=>(own_lt hown e).1)
    refine ⟨⟨i+1,by simp,by omega,⟨_,_,rfl⟩,hid ?_,hid (HBS.out HB0.out),hB3⟩,by simp [intOf];omega⟩
    rw [HSU.out,HTV.out]
    exact hown'
  ·have hin:i=ns.length:=by omega
   have HV:=hid (tOk_all (fun j hj=>HB.out j (by omega)))
   have HIN:=hid hin
   clear hin
   go_wp2
   go_ret2
   exact ⟨⟨_,by rw [HV.out];rfl,fun _=>by rw [←HIN.out];exact HO.out⟩,hbel⟩
end Ex
end Go.Proofs.YtccklgopcjilcaaGreatDoor
/- Plain facts about processes, of no program: what is wrong with one. -/
namespace Go.Proofs.YtccklgopcjilcaaGreatDoor
open Go.RowKit
set_option linter.unusedVariables false
namespace Pf
open Ex (hid inR eFault typeCode typeVal)
open Nd (NodeD)
open St (StepD)
open Tr (Chain cutTo onPath top nf ElemD)
/-! ### the first code of several -/
def firstC (f:Nat→Int):Nat→Int
 | 0=>0
 | n+1=>if firstC f n≠0 then firstC f n else f n
theorem first_next {f:Nat→Int} {i:Nat} (h:firstC f i=0) (hb:f i=0):firstC f (i+1)=0:=by
 rw [firstC,if_neg (by simp [h]),hb]
theorem first_keep {f:Nat→Int}:∀ {n m:Nat},m≤n→firstC f m≠0→firstC f n=firstC f m
 | 0,m,h,h2=>by obtain rfl:m=0:=by omega
                rfl
 | n+1,m,h,h2=>by
  by_cases e:m=n+1
  ·rw [e]
  ·have h3:=first_keep (f:=f) (n:=n) (m:=m) (by omega) h2
   rw [firstC,if_pos (by rw [h3];exact h2),h3]
theorem first_bad {f:Nat→Int} {n i:Nat} (hi:i<n) (h:firstC f i=0) (hb:f i≠0):firstC f n=f i:=by
 have e:firstC f (i+1)=f i:=by rw [firstC,if_neg (by simp [h])]
 rw [first_keep (m:=i+1) (by omega) (by rw [e];exact hb),e]
theorem first_to {f:Nat→Int} {n i:Nat} (h:firstC f n=0) (hi:i≤n):firstC f i=0:=by
 by_cases e:firstC f i=0
 ·exact e
 ·rw [first_keep hi e] at h;exact absurd h e
theorem first_all {f:Nat→Int} {n:Nat} (h:firstC f n=0) {i:Nat} (hi:i<n):f i=0:=by
 by_cases e:f i=0
 ·exact e
 ·have:=first_bad hi (first_to h (by omega)) e
  rw [h] at this;exact absurd this.symm e
/-! ### one step -/
def bare (s:StepD):Bool:=((s.kind==2) || s.name.toList.isEmpty)&&(inR s.kind 5 8 || (s.arg==0))&&((s.kind==7) || decide (s.expr.length=0))
def argOk (s:StepD):Bool:=if s.kind=5 then inR s.arg 0 9 else if s.kind=6∨s.kind=8 then inR s.arg 1 99 else if s.kind=7 then inR s.arg 0 3 else true
def partC (s:StepD):Int:=if s.kind=2∧nf s.name.data.toList≠0 then nf s.name.data.toList else if argOk s=false then 3 else if s.kind=7 then eFault s.expr else 0
def formOk (s:StepD):Bool:=inR s.kind 1 8&&bare s
def PJ (ss:List StepD) (i:Nat):StepD:=ss[i]?.getD ⟨0,0,ByteArray.empty,0,[],[]⟩
theorem PJ_eq {ss:List StepD} {i:Nat} (h:i<ss.length):PJ ss i=ss[i]:=by unfold PJ;rw [List.getElem?_eq_getElem h];rfl
def es (ss:List StepD):List ElemD:=ss.map fun s=>⟨s.name,s.parent,[]⟩
theorem es_len (ss:List StepD):(es ss).length=ss.length:=by simp [es]
theorem es_par {ss:List StepD} {i:Nat} (h:i<ss.length):((es ss)[i]'(by rw [es_len];exact h)).parent=ss[i].parent:=by simp [es]
def path (ss:List StepD):Nat→List Nat
 | 0=>[]
 | i+1=>i :: cutTo (PJ ss i).parent (path ss i)
def parOk (i:Nat) (p:Int):Bool:=if i=0 then p==-1 else inR p 0 ((i:Int) - 1)
def oneC (ss:List StepD) (i:Nat):Int:=
 if formOk (PJ ss i)=false then 1 else if parOk i (PJ ss i).parent=false then 3
 else if 0<i∧onPath (PJ ss i).parent (path ss i)=false then 1
 else if 7<(path ss (i+1)).length then 2 else partC (PJ ss i)
theorem one_form {ss:List StepD} {i:Nat} (h1:formOk (PJ ss i)=false):oneC ss i=1:=by unfold oneC;rw [if_pos h1]
theorem one_par {ss:List StepD} {i:Nat} (h1:formOk (PJ ss i)=true) (h2:parOk i (PJ ss i).parent=false):oneC ss i=3:=by unfold oneC;rw [if_neg (by simp [h1]),if_pos h2]
theorem one_line {ss:List StepD} {i:Nat} (h1:formOk (PJ ss i)=true) (h2:parOk i (PJ ss i).parent=true) (h3:0<i∧onPath (PJ ss i).parent (path ss i)=false):oneC ss i=1:=by unfold oneC;rw [if_neg (by simp [h1]),if_neg (by simp [h2]),if_pos h3]
theorem one_many {ss:List StepD} {i:Nat} (h1:formOk (PJ ss i)=true) (h2:parOk i (PJ ss i).parent=true) (h3:¬(0<i∧onPath (PJ ss i).parent (path ss i)=false)) (h4:7<(path ss (i+1)).length):oneC ss i=2:=by unfold oneC;rw [if_neg (by simp [h1]),if_neg (by simp [h2]),if_neg h3,if_pos h4]
theorem one_part {ss:List StepD} {i:Nat} (h1:formOk (PJ ss i)=true) (h2:parOk i (PJ ss i).parent=true) (h3:¬(0<i∧onPath (PJ ss i).parent (path ss i)=false)) (h4:¬7<(path ss (i+1)).length):oneC ss i=partC (PJ ss i):=by unfold oneC;rw [if_neg (by simp [h1]),if_neg (by simp [h2]),if_neg h3,if_neg h4]
theorem part_name {s:StepD} (h:s.kind=2) (h2:nf s.name.data.toList≠0):partC s=nf s.name.data.toList:=by unfold partC;rw [if_pos ⟨h,h2⟩]
theorem part_arg {s:StepD} (h:¬(s.kind=2∧nf s.name.data.toList≠0)) (h2:argOk s=false):partC s=3:=by unfold partC;rw [if_neg h,if_pos h2]
theorem part_set {s:StepD} (h:¬(s.kind=2∧nf s.name.data.toList≠0)) (h2:argOk s=true) (h3:s.kind=7):partC s=eFault s.expr:=by unfold partC;rw [if_neg h,if_neg (by simp [h2]),if_pos h3]
theorem part_ok {s:StepD} (h:¬(s.kind=2∧nf s.name.data.toList≠0)) (h2:argOk s=true) (h3:s.kind≠7):partC s=0:=by unfold partC;rw [if_neg h,if_neg (by simp [h2]),if_neg h3]
theorem par_not {i:Nat} {p:Int}:parOk i p=false↔(i=0∧p≠-1)∨(0<i∧¬(0≤p∧p<i)):=by
 unfold parOk
 by_cases h:i=0
 ·rw [if_pos h];simp [h]
 ·rw [if_neg h,Ex.inR_not]
  constructor
  ·intro h2;exact .inr ⟨by omega,by omega⟩
  ·rintro (h2 | h2)
   ·omega
   ·omega
theorem of_one {ss:List StepD} {i:Nat} (h:oneC ss i=0):formOk (PJ ss i)=true∧parOk i (PJ ss i).parent=true∧¬(0<i∧onPath (PJ ss i).parent (path ss i)=false)∧¬7<(path ss (i+1)).length∧partC (PJ ss i)=0:=by
 unfold oneC at h
 by_cases h1:formOk (PJ ss i)=false
 ·rw [if_pos h1] at h;omega
 rw [if_neg h1] at h
 by_cases h2:parOk i (PJ ss i).parent=false
 ·rw [if_pos h2] at h;omega
 rw [if_neg h2] at h
 by_cases h3:0<i∧onPath (PJ ss i).parent (path ss i)=false
 ·rw [if_pos h3] at h;omega
 rw [if_neg h3] at h
 by_cases h4:7<(path ss (i+1)).length
 ·rw [if_pos h4] at h;omega
 rw [if_neg h4] at h
 exact ⟨by simpa using h1,by simpa using h2,h3,h4,h⟩
structure Walked (ss:List StepD) (i:Nat):Prop where
 chain:Chain (es ss) (path ss i)
 first:top (path ss i)=(i:Int) - 1
 deep:(path ss i).length≤7
theorem top_path (ss:List StepD):∀i,top (path ss i)=(i:Int) - 1
 | 0=>rfl
 | i+1=>by show ((i:Nat):Int)=_;simp
theorem next_chain {ss:List StepD} {i:Nat} (hi:i<ss.length) (hc:Chain (es ss) (path ss i)) (h2:parOk i (PJ ss i).parent=true) (h3:¬(0<i∧onPath (PJ ss i).parent (path ss i)=false)):Chain (es ss) (path ss (i+1)):=by
 have hi':i<(es ss).length:=by rw [es_len];exact hi
 have hp:(es ss)[i].parent=(PJ ss i).parent:=by rw [es_par hi,PJ_eq hi]
 have h:=Tr.next_chain (es:=es ss) (i:=i) (S:=path ss i) hc (top_path ss i) hi' (by
  rw [hp]
  intro h4
  rw [par_not.2 h4] at h2
  cases h2) (by rw [hp];exact h3)
 rw [hp] at h
 exact h
theorem walked {ss:List StepD}:∀ {i:Nat},i≤ss.length→firstC (oneC ss) i=0→Walked ss i
 | 0,_,_=>⟨trivial,rfl,Nat.zero_le _⟩
 | i+1,hi,h=>by
  have h0:=first_to h (Nat.le_succ i)
  have h1:=of_one (first_all h (Nat.lt_succ_self i))
  have w:=walked (by omega) h0
  exact ⟨next_chain (by omega) w.chain h1.2.1 h1.2.2.1,top_path ss _,by omega⟩
/-! ### kids -/
def kidsN (ss:List StepD) (n j:Nat):List Nat:=(List.range n).filter fun i=>(PJ ss i).parent==(j:Int)
def kidsL (ss:List StepD) (j:Nat):List Nat:=kidsN ss ss.length j
theorem kidsN_succ (ss:List StepD) (n j:Nat):kidsN ss (n+1) j=kidsN ss n j++(if (PJ ss n).parent=(j:Int) then [n] else []):=by
 unfold kidsN
 rw [List.range_succ,List.filter_append]
 congr 1
 by_cases h:(PJ ss n).parent=(j:Int)
 ·simp [h]
 ·simp [h]
theorem kidsN_le (ss:List StepD) (n j:Nat):(kidsN ss n j).length≤n:=by
 unfold kidsN
 have:=List.length_filter_le (fun i=>(PJ ss i).parent==(j:Int)) (List.range n)
 simpa using this
def manyOk (kind:Int) (n:Nat):Bool:=if kind=1 then decide (1≤n) else if kind=3∨kind=4 then decide (2≤n) else if kind=8 then decide (n=2) else decide (n=0)
def lastIs (l:List Nat) (i:Nat):Bool:=l.getLast?==some i
def needs (ss:List StepD) (i:Nat):Bool:=decide (0≤(PJ ss i).parent)&&((PJ ss (PJ ss i).parent.toNat).kind==3)&&!lastIs (kidsL ss (PJ ss i).parent.toNat) i
def linkC (ss:List StepD) (i:Nat):Int:=if manyOk (PJ ss i).kind (kidsL ss i).length=false then 1 else if needs ss i≠decide (0<(PJ ss i).cond.length) then 1 else if 0<(PJ ss i).cond.length then eFault (PJ ss i).cond else 0
theorem link_many {ss:List StepD} {i:Nat} (h:manyOk (PJ ss i).kind (kidsL ss i).length=false):linkC ss i=1:=by unfold linkC;rw [if_pos h]
theorem link_need {ss:List StepD} {i:Nat} (h:manyOk (PJ ss i).kind (kidsL ss i).length=true) (h2:needs ss i≠decide (0<(PJ ss i).cond.length)):linkC ss i=1:=by unfold linkC;rw [if_neg (by simp [h]),if_pos h2]
theorem link_cond {ss:List StepD} {i:Nat} (h:manyOk (PJ ss i).kind (kidsL ss i).length=true) (h2:needs ss i=decide (0<(PJ ss i).cond.length)) (h3:0<(PJ ss i).cond.length):linkC ss i=eFault (PJ ss i).cond:=by unfold linkC;rw [if_neg (by simp [h]),if_neg (by simp [h2]),if_pos h3]
theorem link_ok {ss:List StepD} {i:Nat} (h:manyOk (PJ ss i).kind (kidsL ss i).length=true) (h2:needs ss i=decide (0<(PJ ss i).cond.length)) (h3:¬0<(PJ ss i).cond.length):linkC ss i=0:=by unfold linkC;rw [if_neg (by simp [h]),if_neg (by simp [h2]),if_neg h3]
/-! ### types -/
def tyC (e:List NodeD) (want:Int):Int:=if e.length=0 then 0 else if typeCode e≠0 then typeCode e else if typeVal e≠want then 7 else 0
theorem ty_nil {e:List NodeD} {want:Int} (h:e.length=0):tyC e want=0:=by unfold tyC;rw [if_pos h]
theorem ty_code {e:List NodeD} {want:Int} (h:e.length≠0) (h2:typeCode e≠0):tyC e want=typeCode e:=by unfold tyC;rw [if_neg h,if_pos h2]
theorem ty_type {e:List NodeD} {want:Int} (h:e.length≠0) (h2:typeCode e=0) (h3:typeVal e≠want):tyC e want=7:=by unfold tyC;rw [if_neg h,if_neg (by simp [h2]),if_pos h3]
theorem ty_ok {e:List NodeD} {want:Int} (h:e.length≠0) (h2:typeCode e=0) (h3:typeVal e=want):tyC e want=0:=by unfold tyC;rw [if_neg h,if_neg (by simp [h2]),if_neg (by simp [h3])]
def typC (ss:List StepD) (i:Nat):Int:=if tyC (PJ ss i).cond 2≠0 then tyC (PJ ss i).cond 2 else tyC (PJ ss i).expr 1
/-! ### all of it -/
def pFault (ss:List StepD):Int:=
 if ss.length<1∨24<ss.length then 2 else if firstC (oneC ss) ss.length≠0 then firstC (oneC ss) ss.length
 else if firstC (linkC ss) ss.length≠0 then firstC (linkC ss) ss.length else firstC (typC ss) ss.length
theorem p_many {ss:List StepD} (h:ss.length<1∨24<ss.length):pFault ss=2:=by unfold pFault;rw [if_pos h]
theorem p_one {ss:List StepD} (h:¬(ss.length<1∨24<ss.length)) {i:Nat} (hi:i<ss.length) (h1:firstC (oneC ss) i=0) (h2:oneC ss i≠0):pFault ss=oneC ss i:=by
 have e:=first_bad hi h1 h2
 unfold pFault;rw [if_neg h,if_pos (by rw [e];exact h2),e]
theorem p_link {ss:List StepD} (h:¬(ss.length<1∨24<ss.length)) (h0:firstC (oneC ss) ss.length=0) {i:Nat} (hi:i<ss.length) (h1:firstC (linkC ss) i=0) (h2:linkC ss i≠0):pFault ss=linkC ss i:=by
 have e:=first_bad hi h1 h2
 unfold pFault;rw [if_neg h,if_neg (by simp [h0]),if_pos (by rw [e];exact h2),e]
theorem p_typ {ss:List StepD} (h:¬(ss.length<1∨24<ss.length)) (h0:firstC (oneC ss) ss.length=0) (h1:firstC (linkC ss) ss.length=0) {i:Nat} (hi:i<ss.length) (h2:firstC (typC ss) i=0) (h3:typC ss i≠0):pFault ss=typC ss i:=by
 have e:=first_bad hi h2 h3
 unfold pFault;rw [if_neg h,if_neg (by simp [h0]),if_neg (by simp [h1]),e]
theorem p_ok {ss:List StepD} (h:¬(ss.length<1∨24<ss.length)) (h0:firstC (oneC ss) ss.length=0) (h1:firstC (linkC ss) ss.length=0) (h2:firstC (typC ss) ss.length=0):pFault ss=0:=by
 unfold pFault;rw [if_neg h,if_neg (by simp [h0]),if_neg (by simp [h1]),h2]
theorem of_p {ss:List StepD} (h:pFault ss=0):¬(ss.length<1∨24<ss.length)∧firstC (oneC ss) ss.length=0∧firstC (linkC ss) ss.length=0∧firstC (typC ss) ss.length=0:=by
 unfold pFault at h
 by_cases h0:ss.length<1∨24<ss.length
 ·rw [if_pos h0] at h;omega
 rw [if_neg h0] at h
 by_cases h1:firstC (oneC ss) ss.length≠0
 ·rw [if_pos h1] at h;exact absurd h h1
 rw [if_neg h1] at h
 by_cases h2:firstC (linkC ss) ss.length≠0
 ·rw [if_pos h2] at h;exact absurd h h2
 rw [if_neg h2] at h
 exact ⟨h0,by simpa using h1,by simpa using h2,h⟩
theorem par_lt {ss:List StepD} {i:Nat} (h:oneC ss i=0):(PJ ss i).parent<i∧-1≤(PJ ss i).parent:=by
 have h2:=(of_one h).2.1
 unfold parOk at h2
 by_cases h0:i=0
 ·rw [if_pos h0] at h2
  have:(PJ ss i).parent=-1:=beq_iff_eq.1 h2
  omega
 ·rw [if_neg h0] at h2
  have:=Ex.inR_iff.1 h2
  omega
end Pf
end Go.Proofs.YtccklgopcjilcaaGreatDoor
