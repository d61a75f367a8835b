/- Laid together: ExB, ExC, ExD. -/
import Derived.Test.YtccklgopcjilcaaGreatDoorJCT2
import Derived.Maps.AppendAt
import Derived.Laws.OwnMore
import Derived.RangeFuncBox
/- The specification's look at one node. -/
namespace Go.Proofs.YtccklgopcjilcaaGreatDoor
open Go.RowKit
set_option linter.unusedVariables false
namespace Ex
open Nd (NodeD)
set_option maxRecDepth 100000 in
set_option maxHeartbeats 4000000 in
theorem specNode (n:NodeD) (i:Int) (g off:Nat) (w:World) (hi:0≤i) (hi2:i≤1000000) (c0:w.cell? ⟨g,off,none⟩=some (.int .i64 n.kind)) (c1:w.cell? ⟨g,off+1,none⟩=some (.int .i64 n.value)) (c2:w.cell? ⟨g,off+2,none⟩=some (.int .i64 n.left)) (c3:w.cell? ⟨g,off+3,none⟩=some (.int .i64 n.right)):
    Calls Tryz.prog 244 #[.pointer (some ⟨g,off,none⟩),.int .i64 i] w fun e w'=>e=.returned (.int .i64 (nCode n i))∧w'=w:=by
 generalize hk:n.kind=kind at *
 generalize hv:n.value=value at *
 generalize hl:n.left=left at *
 generalize hr:n.right=right at *
 cases h0:inR kind 1 10
 ·skip
  have HV:=hid (n_kind (n:=n) (i:=i) (by rw [hk];exact h0))
  clear hk hv hl hr
  go_enter Tryz.func244,Tryz.ntmps244
  go_wp2_with (first | (go_at_call 118;refine (specIn _ _ _ _).mono ?_;rintro e w1 ⟨rfl,rfl⟩;try rw [h0]) | (go_at_call 259;refine (specTwo _ _).mono ?_;rintro e w1 ⟨rfl,rfl⟩;try rw [tt]))
  go_ret
  exact ⟨by rw [HV.out];rfl,rfl⟩
 ·skip
  have hb:=inR_iff.1 h0
  have N1:(kind==10)=true∨(kind==10)=false:=by cases (kind==10) <;> simp
  by_cases hle:kind≤2
  ·have t10:(kind==10)=false:=beq_eq_false_iff_ne.2 (by omega)
   have tt:two kind=false:=inR_not.2 (by omega)
   cases b1:(left != 0)
   ·cases b2:(right != 0)
    ·by_cases k1:kind=1
     ·have t1:(kind==1)=true:=beq_iff_eq.2 k1
      have t2:(kind==2)=false:=beq_eq_false_iff_ne.2 (by omega)
      cases b3:inR value 0 9999
      ·skip
       have HV:=hid (n_wide (n:=n) (i:=i) (by rw [hk];exact h0) (by simp [has,hk,hv,hl,hr,hle,t10,b1,b2]) (by simp [wide,hk,hv,t1,b3]))
       clear hk hv hl hr k1 hb N1
       go_enter Tryz.func244,Tryz.ntmps244
       go_wp2_with (first | (go_at_call 118;refine (specIn _ _ _ _).mono ?_;rintro e w1 ⟨rfl,rfl⟩;try rw [b3];try rw [h0]) | (go_at_call 259;refine (specTwo _ _).mono ?_;rintro e w1 ⟨rfl,rfl⟩;try rw [tt]))
       go_ret
       exact ⟨by rw [HV.out];rfl,rfl⟩
      ·skip
       have HV:=hid (n_ok (n:=n) (i:=i) (by rw [hk];exact h0) (by simp [has,hk,hv,hl,hr,hle,t10,b1,b2]) (by simp [wide,hk,hv,t1,t2,b3]) (by simp [far,hk,hle,tt]))
       clear hk hv hl hr k1 hb N1
       go_enter Tryz.func244,Tryz.ntmps244
       go_wp2_with (first | (go_at_call 118;refine (specIn _ _ _ _).mono ?_;rintro e w1 ⟨rfl,rfl⟩;try rw [b3];try rw [h0]) | (go_at_call 259;refine (specTwo _ _).mono ?_;rintro e w1 ⟨rfl,rfl⟩;try rw [tt]))
       go_ret
       exact ⟨by rw [HV.out];rfl,rfl⟩
     ·have t1:(kind==1)=false:=beq_eq_false_iff_ne.2 k1
      have t2:(kind==2)=true:=beq_iff_eq.2 (by omega)
      cases b3:inR value 0 3
      ·skip
       have HV:=hid (n_wide (n:=n) (i:=i) (by rw [hk];exact h0) (by simp [has,hk,hv,hl,hr,hle,t10,b1,b2]) (by simp [wide,hk,hv,t1,t2,b3]))
       clear hk hv hl hr k1 hb N1
       go_enter Tryz.func244,Tryz.ntmps244
       go_wp2_with (first | (go_at_call 118;refine (specIn _ _ _ _).mono ?_;rintro e w1 ⟨rfl,rfl⟩;try rw [b3];try rw [h0]) | (go_at_call 259;refine (specTwo _ _).mono ?_;rintro e w1 ⟨rfl,rfl⟩;try rw [tt]))
       go_ret
       exact ⟨by rw [HV.out];rfl,rfl⟩
      ·skip
       have HV:=hid (n_ok (n:=n) (i:=i) (by rw [hk];exact h0) (by simp [has,hk,hv,hl,hr,hle,t10,b1,b2]) (by simp [wide,hk,hv,t1,t2,b3]) (by simp [far,hk,hle,tt]))
       clear hk hv hl hr k1 hb N1
       go_enter Tryz.func244,Tryz.ntmps244
       go_wp2_with (first | (go_at_call 118;refine (specIn _ _ _ _).mono ?_;rintro e w1 ⟨rfl,rfl⟩;try rw [b3];try rw [h0]) | (go_at_call 259;refine (specTwo _ _).mono ?_;rintro e w1 ⟨rfl,rfl⟩;try rw [tt]))
       go_ret
       exact ⟨by rw [HV.out];rfl,rfl⟩
    ·skip
     have HV:=hid (n_has (n:=n) (i:=i) (by rw [hk];exact h0) (by simp [has,hk,hv,hl,hr,hle,b1,b2]))
     clear hk hv hl hr hb N1
     go_enter Tryz.func244,Tryz.ntmps244
     go_wp2_with (first | (go_at_call 118;refine (specIn _ _ _ _).mono ?_;rintro e w1 ⟨rfl,rfl⟩;try rw [h0]) | (go_at_call 259;refine (specTwo _ _).mono ?_;rintro e w1 ⟨rfl,rfl⟩;try rw [tt]))
     go_ret
     exact ⟨by rw [HV.out];rfl,rfl⟩
   ·skip
    have HV:=hid (n_has (n:=n) (i:=i) (by rw [hk];exact h0) (by simp [has,hk,hv,hl,hr,hle,b1]))
    clear hk hv hl hr hb N1
    go_enter Tryz.func244,Tryz.ntmps244
    go_wp2_with (first | (go_at_call 118;refine (specIn _ _ _ _).mono ?_;rintro e w1 ⟨rfl,rfl⟩;try rw [h0]) | (go_at_call 259;refine (specTwo _ _).mono ?_;rintro e w1 ⟨rfl,rfl⟩;try rw [tt]))
    go_ret
    exact ⟨by rw [HV.out];rfl,rfl⟩
  ·have t1:(kind==1)=false:=beq_eq_false_iff_ne.2 (by omega)
   have t2:(kind==2)=false:=beq_eq_false_iff_ne.2 (by omega)
   cases b1:(value != 0)
   ·by_cases k10:kind=10
    ·have t10:(kind==10)=true:=beq_iff_eq.2 k10
     have tt:two kind=false:=inR_not.2 (by omega)
     cases b2:(right != 0)
     ·cases b3:inR left 0 (i - 1)
      ·skip
       have HV:=hid (n_far (n:=n) (i:=i) (by rw [hk];exact h0) (by simp [has,hk,hv,hl,hr,hle,t10,b1,b2]) (by simp [wide,hk,hv,t1,t2]) (by simp [far,hk,hl,hle,b3]))
       clear hk hv hl hr k10 hb N1
       go_enter Tryz.func244,Tryz.ntmps244
       go_wp2_with (first | (go_at_call 118;refine (specIn _ _ _ _).mono ?_;rintro e w1 ⟨rfl,rfl⟩;try rw [b3];try rw [h0]) | (go_at_call 259;refine (specTwo _ _).mono ?_;rintro e w1 ⟨rfl,rfl⟩;try rw [tt]))
       go_ret
       exact ⟨by rw [HV.out];rfl,rfl⟩
      ·skip
       have HV:=hid (n_ok (n:=n) (i:=i) (by rw [hk];exact h0) (by simp [has,hk,hv,hl,hr,hle,t10,b1,b2]) (by simp [wide,hk,hv,t1,t2]) (by simp [far,hk,hl,hle,b3,tt]))
       clear hk hv hl hr k10 hb N1
       go_enter Tryz.func244,Tryz.ntmps244
       go_wp2_with (first | (go_at_call 118;refine (specIn _ _ _ _).mono ?_;rintro e w1 ⟨rfl,rfl⟩;try rw [b3];try rw [h0]) | (go_at_call 259;refine (specTwo _ _).mono ?_;rintro e w1 ⟨rfl,rfl⟩;try rw [tt]))
       go_ret
       exact ⟨by rw [HV.out];rfl,rfl⟩
     ·skip
      have HV:=hid (n_has (n:=n) (i:=i) (by rw [hk];exact h0) (by simp [has,hk,hv,hl,hr,hle,t10,b1,b2]))
      clear hk hv hl hr k10 hb N1
      go_enter Tryz.func244,Tryz.ntmps244
      go_wp2_with (first | (go_at_call 118;refine (specIn _ _ _ _).mono ?_;rintro e w1 ⟨rfl,rfl⟩;try rw [h0]) | (go_at_call 259;refine (specTwo _ _).mono ?_;rintro e w1 ⟨rfl,rfl⟩;try rw [tt]))
      go_ret
      exact ⟨by rw [HV.out];rfl,rfl⟩
    ·have t10:(kind==10)=false:=beq_eq_false_iff_ne.2 k10
     have tt:two kind=true:=inR_iff.2 (by omega)
     cases b3:inR left 0 (i - 1)
     ·skip
      have HV:=hid (n_far (n:=n) (i:=i) (by rw [hk];exact h0) (by simp [has,hk,hv,hl,hr,hle,t10,b1]) (by simp [wide,hk,hv,t1,t2]) (by simp [far,hk,hl,hle,b3]))
      clear hk hv hl hr k10 hb N1
      go_enter Tryz.func244,Tryz.ntmps244
      go_wp2_with (first | (go_at_call 118;refine (specIn _ _ _ _).mono ?_;rintro e w1 ⟨rfl,rfl⟩;try rw [b3];try rw [h0]) | (go_at_call 259;refine (specTwo _ _).mono ?_;rintro e w1 ⟨rfl,rfl⟩;try rw [tt]))
      go_ret
      exact ⟨by rw [HV.out];rfl,rfl⟩
     ·skip
      cases b4:inR right 0 (i - 1)
      ·skip
       have HV:=hid (n_far (n:=n) (i:=i) (by rw [hk];exact h0) (by simp [has,hk,hv,hl,hr,hle,t10,b1]) (by simp [wide,hk,hv,t1,t2]) (by simp [far,hk,hl,hr,hle,b3,b4,tt]))
       clear hk hv hl hr k10 hb N1
       go_enter Tryz.func244,Tryz.ntmps244
       go_wp2_with (first | (go_at_call 118;refine (specIn _ _ _ _).mono ?_;rintro e w1 ⟨rfl,rfl⟩;try rw [b3];try rw [b4];try rw [h0]) | (go_at_call 259;refine (specTwo _ _).mono ?_;rintro e w1 ⟨rfl,rfl⟩;try rw [tt]))
       go_ret
       exact ⟨by rw [HV.out];rfl,rfl⟩
      ·skip
       have HV:=hid (n_ok (n:=n) (i:=i) (by rw [hk];exact h0) (by simp [has,hk,hv,hl,hr,hle,t10,b1]) (by simp [wide,hk,hv,t1,t2]) (by simp [far,hk,hl,hr,hle,b3,b4,tt]))
       clear hk hv hl hr k10 hb N1
       go_enter Tryz.func244,Tryz.ntmps244
       go_wp2_with (first | (go_at_call 118;refine (specIn _ _ _ _).mono ?_;rintro e w1 ⟨rfl,rfl⟩;try rw [b3];try rw [b4];try rw [h0]) | (go_at_call 259;refine (specTwo _ _).mono ?_;rintro e w1 ⟨rfl,rfl⟩;try rw [tt]))
       go_ret
       exact ⟨by rw [HV.out];rfl,rfl⟩
   ·skip
    have HV:=hid (n_has (n:=n) (i:=i) (by rw [hk];exact h0) (by simp [has,hk,hv,hl,hr,hle,b1]))
    clear hk hv hl hr hb N1
    go_enter Tryz.func244,Tryz.ntmps244
    go_wp2_with (first | (go_at_call 118;refine (specIn _ _ _ _).mono ?_;rintro e w1 ⟨rfl,rfl⟩;try rw [h0]) | (go_at_call 259;refine (specTwo _ _).mono ?_;rintro e w1 ⟨rfl,rfl⟩;try rw [tt]))
    go_ret
    exact ⟨by rw [HV.out];rfl,rfl⟩
end Ex
end Go.Proofs.YtccklgopcjilcaaGreatDoor
/- The specification's walk over an expression, and ExprFault. -/
namespace Go.Proofs.YtccklgopcjilcaaGreatDoor
open Go.RowKit
set_option linter.unusedVariables false
namespace Ex
open Nd (NodeD)
theorem infoI64:(Tryz.prog.info? 2).map (fun i=>(i.zero,i.size,i.bytes))=some (some (.int .i64 0),1,8):=by kernel_rfl
theorem info_parts {P:Program} {e:TypeId} {z:Value} {sz bytes:Nat} (h:(P.info? e).map (fun i=>(i.zero,i.size,i.bytes))=some (some z,sz,bytes)):∃i,P.info? e=some i∧i.zero=some z∧i.size=sz∧i.bytes=bytes:=by
 cases hi:P.info? e with
 | none=>rw [hi] at h;cases h
 | some i=>
  rw [hi] at h
  simp only [Option.map_some,Option.some.injEq,Prod.mk.injEq] at h
  exact ⟨i,rfl,h.1,h.2.1,h.2.2⟩
def idVals (l:List Nat):List Value:=l.map fun (i:Nat)=>.int .i64 (i:Int)
theorem owns_slice {w:World} {base n:Nat} {e:TypeId} {v:Value} {xs:List Value} (h:w.ownsRow base e 1 v n xs):∃a cap,v=.slice a n cap:=by
 obtain ⟨hl,⟨rfl,rfl⟩ | ⟨g',cap',cur,hv,_⟩⟩:=h
 ·exact ⟨_,_,rfl⟩
 ·exact ⟨_,_,hv⟩
theorem own_lt {w:World} {B:Nat} {e:TypeId} {size n b:Nat} {v:Value} {xs:List Value} (h:w.ownsRow B e size v n xs) (hb:v.ownBlock=some b):B≤b∧b<w.heap.size:=by
 rcases h.2 with ⟨rfl,_⟩ | ⟨g,cap,cur,rfl,hbg,hg,_⟩
 ·simp [Value.ownBlock] at hb
 ·obtain rfl:g=b:=by simpa [Value.ownBlock] using hb
  exact ⟨hbg,(Array.getElem?_eq_some_iff.1 hg).1⟩
theorem walk_long {ns:List NodeD} {f k:Nat} {out:List Nat} (h:16<out.length):walkF ns (f+1) k out=out:=by rw [walkF,if_pos h]
theorem walk_leaf {ns:List NodeD} {f k:Nat} {out:List Nat} (h:¬16<out.length) (h1:¬2<(NJ ns k).kind) (h2:two (NJ ns k).kind=false):walkF ns (f+1) k out=out++[k]:=by rw [walkF,if_neg h,if_neg (by simp [h2]),if_neg h1]
theorem walk_one {ns:List NodeD} {f k l:Nat} {out:List Nat} (h:¬16<out.length) (h1:2<(NJ ns k).kind) (h2:two (NJ ns k).kind=false) (hl:(NJ ns k).left=(l:Int)):walkF ns (f+1) k out=walkF ns f l out++[k]:=by rw [walkF,if_neg h,if_neg (by simp [h2]),if_pos h1,hl,Int.toNat_natCast]
theorem walk_two {ns:List NodeD} {f k l r:Nat} {out:List Nat} (h:¬16<out.length) (h1:2<(NJ ns k).kind) (h2:two (NJ ns k).kind=true) (hl:(NJ ns k).left=(l:Int)) (hr:(NJ ns k).right=(r:Int)):walkF ns (f+1) k out=walkF ns f r (walkF ns f l out)++[k]:=by rw [walkF,if_neg h,if_pos h2,if_pos h1,hl,hr,Int.toNat_natCast,Int.toNat_natCast]
set_option maxRecDepth 100000 in
set_option maxHeartbeats 4000000 in
theorem specWalk (ns:List NodeD) (v:Value) (W0:World) (B0:Nat) (hA:Nd.At W0 B0 v ns) (hok:∀k,k<ns.length→nCode (NJ ns k) k=0) (hns:ns.length≤16):∀(f k:Nat) (out:List Nat) (u:Value) (w:World),k<ns.length→k<f→f≤16→out.length+32*f≤10000→Below W0.heap.size W0 w→w.ownsRow W0.heap.size 2 1 u out.length (idVals out)→
    Calls Tryz.prog 245 #[v,.int .i64 (k:Int),u] w fun e w'=>(∃u',e=.returned u'∧w'.ownsRow W0.heap.size 2 1 u' (walkF ns f k out).length (idVals (walkF ns f k out)))∧Below W0.heap.size w w'
 | 0,k,out,u,w,hk,hf,_,_,_,_=>by omega
 | f+1,k,out,u,w,hk,hf,hf16,hlen,hbw,hown=>by
  have HIH:=hid (fun c out u w (h1:c<ns.length) (h2:c<f) (h3:out.length+32*f≤10000) (h4:Below W0.heap.size W0 w) (h5:w.ownsRow W0.heap.size 2 1 u out.length (idVals out))=>specWalk ns v W0 B0 hA hok hns f c out u w h1 h2 (by omega) h3 h4 h5)
  obtain ⟨a,cap,rfl⟩:=hA.slice
  have HA:=hid hA
  have hn:=hok k hk
  have HNJ:=hid (NJ_eq hk)
  rw [HNJ.out] at hn
  obtain ⟨x5,y5,rfl⟩:=owns_slice hown
  have HO:=hid hown
  obtain ⟨g,o,rfl,hg,c0,c1,c2,c3⟩:=(hA.below hbw).at hk
  have q0:(k:Int)<(ns.length:Int):=by omega
  have hz:=hbw.size
  obtain ⟨j0,hj,hy0,hy1,hy2⟩:=info_parts infoI64
  have HT:=hid (fun w'=>specTwo ns[k].kind w')
  have hwl:=walk_len ns f
  clear hA hown hok
  by_cases h16:16<out.length
  ·have HV:=hid (walk_long (ns:=ns) (f:=f) (k:=k) h16)
   have q16:(16:Int)<(out.length:Int):=by omega
   go_enter Tryz.func245,Tryz.ntmps245
   go_wp2
   go_ret
   exact ⟨⟨_,rfl,by rw [HV.out];exact HO.out⟩,Below.refl _ _⟩
  ·have q16:¬(16:Int)<(out.length:Int):=by omega
   by_cases hk2:2<ns[k].kind
   ·have hnl:=n_left hn hk2
    obtain ⟨l,hl⟩:∃l:Nat,ns[k].left=(l:Int):=⟨ns[k].left.toNat,by omega⟩
    have h1w:=hwl l out
    have HL:=hid (HIH.out l out _ w (by omega) (by omega) (by omega) hbw HO.out)
    cases ht:two ns[k].kind
    ·have HV:=hid (walk_one (ns:=ns) (f:=f) (k:=k) (l:=l) h16 (by rw [HNJ.out];exact hk2) (by rw [HNJ.out];exact ht) (by rw [HNJ.out];exact hl))
     rw [ht] at HT
     rw [hl] at c2
     clear hnl hl ht hn hwl
     generalize walkF ns f l out=o1 at *
     go_enter Tryz.func245,Tryz.ntmps245
     go_wp2_with fail
     refine HL.out.mono ?_
     rintro e w1 ⟨⟨u1,rfl,ho1⟩,hb1⟩
     obtain ⟨a1,d1,rfl⟩:=owns_slice ho1
     obtain ⟨g',o',e',hg',m0,m1,m2,m3⟩:=(HA.out.below (hbw.trans hb1)).at hk
     cases e'
     have hz1:=(hbw.trans hb1).size
     go_wp2_with (first
      | (go_at_call 259;refine (HT.out _).mono ?_;rintro e w2 ⟨rfl,rfl⟩)
      | (at_builtin;go_must (refine wpList_append_own _ rfl _ _ 110 rfl W0.heap.size 2 j0 (.int .i64 0) 1 8 Tryz.underlying110 hj hy0 hy1 hy2 rfl (by decide) _ _ _ rfl (ho1.alloc _) ⟨w2.heap.size,0,none⟩ 1 1 [.int .i64 (k:Int)] rfl rfl (cell_one_new _ _ _) (by simp [Value.oneCell']) (by unfold maxLen;omega) (by omega) (by simp;omega) ?_);intro v' w3 hown' hgrow _;obtain ⟨g9,c9,rfl⟩:=ownsRow_succ hown'))
     go_ret
     have hB3:Below W0.heap.size w w3:=(hb1.alloc (by omega) _).grown hgrow (by simp;omega) (fun b e=>(own_lt ho1 e).1)
     refine ⟨⟨_,rfl,?_⟩,hB3⟩
     rw [HV.out,List.length_append]
     simpa [idVals] using hown'
    ·have hnr:=n_right hn ht
     obtain ⟨r,hr⟩:∃r:Nat,ns[k].right=(r:Int):=⟨ns[k].right.toNat,by omega⟩
     have HV:=hid (walk_two (ns:=ns) (f:=f) (k:=k) (l:=l) (r:=r) h16 (by rw [HNJ.out];exact hk2) (by rw [HNJ.out];exact ht) (by rw [HNJ.out];exact hl) (by rw [HNJ.out];exact hr))
     have h2w:=hwl r (walkF ns f l out)
     rw [ht] at HT
     rw [hl] at c2
     have hrk:r<k:=by omega
     have HHR:=hid hr
     clear hnl hl ht hn hwl hnr hr
     generalize walkF ns f l out=o1 at *
     have HR:=hid (fun u w (h4:Below W0.heap.size W0 w) (h5:w.ownsRow W0.heap.size 2 1 u o1.length (idVals o1))=>HIH.out r o1 u w (by omega) (by omega) (by omega) h4 h5)
     generalize walkF ns f r o1=o2 at *
     go_enter Tryz.func245,Tryz.ntmps245
     go_wp2_with fail
     refine HL.out.mono ?_
     rintro e w1 ⟨⟨u1,rfl,ho1⟩,hb1⟩
     obtain ⟨a1,d1,rfl⟩:=owns_slice ho1
     obtain ⟨g',o',e',hg',m0,m1,m2,m3⟩:=(HA.out.below (hbw.trans hb1)).at hk
     cases e'
     rw [HHR.out] at m3
     have HR1:=hid (HR.out _ w1 (hbw.trans hb1) ho1)
     clear HR ho1
     go_wp2_with (first
      | (go_at_call 259;refine (HT.out _).mono ?_;rintro e w2 ⟨rfl,rfl⟩)
      | (go_at_call 245;refine HR1.out.mono ?_;rintro e w2 ⟨⟨u2,rfl,ho2⟩,hb2⟩;obtain ⟨a2,d2,rfl⟩:=owns_slice ho2;have hz2:=((hbw.trans hb1).trans hb2).size)
      | (at_builtin;go_must (refine wpList_append_own _ rfl _ _ 110 rfl W0.heap.size 2 j0 (.int .i64 0) 1 8 Tryz.underlying110 hj hy0 hy1 hy2 rfl (by decide) _ _ _ rfl (ho2.alloc _) ⟨w2.heap.size,0,none⟩ 1 1 [.int .i64 (k:Int)] rfl rfl (cell_one_new _ _ _) (by simp [Value.oneCell']) (by unfold maxLen;omega) (by omega) (by simp;omega) ?_);intro v' w3 hown' hgrow _;obtain ⟨g9,c9,rfl⟩:=ownsRow_succ hown'))
     go_ret
     have hB3:Below W0.heap.size w w3:=((hb1.trans hb2).alloc (by omega) _).grown hgrow (by simp;omega) (fun b e=>(own_lt ho2 e).1)
     refine ⟨⟨_,rfl,?_⟩,hB3⟩
     rw [HV.out,List.length_append]
     simpa [idVals] using hown'
   ·have ht:two ns[k].kind=false:=inR_not.2 (by omega)
    have HV:=hid (walk_leaf (ns:=ns) (f:=f) (k:=k) h16 (by rw [HNJ.out];exact hk2) (by rw [HNJ.out];exact ht))
    rw [ht] at HT
    have hown:=HO.out
    clear ht hn hwl
    go_enter Tryz.func245,Tryz.ntmps245
    go_wp2_with (first
        | (go_at_call 259;refine (HT.out _).mono ?_;rintro e w2 ⟨rfl,rfl⟩)
        | (at_builtin;go_must (refine wpList_append_own _ rfl _ _ 110 rfl W0.heap.size 2 j0 (.int .i64 0) 1 8 Tryz.underlying110 hj hy0 hy1 hy2 rfl (by decide) _ _ _ rfl (hown.alloc _) ⟨w2.heap.size,0,none⟩ 1 1 [.int .i64 (k:Int)] rfl rfl (cell_one_new _ _ _) (by simp [Value.oneCell']) (by unfold maxLen;omega) (by omega) (by simp;omega) ?_);intro v' w3 hown' hgrow _;obtain ⟨g9,c9,rfl⟩:=ownsRow_succ hown'))
    go_ret
    have hB3:Below W0.heap.size w2 w3:=((Below.refl _ w2).alloc (by omega) _).grown hgrow (by simp;omega) (fun b e=>(own_lt hown e).1)
    refine ⟨⟨_,rfl,?_⟩,hB3⟩
    rw [HV.out,List.length_append]
    simpa [idVals] using hown'
end Ex
end Go.Proofs.YtccklgopcjilcaaGreatDoor
/- The specification's ExprFault. -/
namespace Go.Proofs.YtccklgopcjilcaaGreatDoor
open Go.RowKit
set_option linter.unusedVariables false
namespace Ex
open Nd (NodeD)
theorem owns_cell {w:World} {base g n cap i:Nat} {e:TypeId} {xs:List Value} (h:w.ownsRow base e 1 (.slice (some ⟨g,0,none⟩) n cap) n xs) (hi:i<n) (hx:i<xs.length):w.cell? ⟨g,i,none⟩=some xs[i]:=by
 obtain ⟨hl,⟨e1,_⟩ | ⟨g',cap',cur,e1,hbg,hg,hle,hm,hs,ht⟩⟩:=h
 ·cases e1
 ·cases e1
  have:cur[i]?=some xs[i]:=by
   have h2:=congrArg (·[i]?) ht
   simp only [Nat.mul_one,List.getElem?_take,hi,if_true,List.getElem?_eq_getElem hx] at h2
   simpa using h2
  simp [World.cell?,hg,this]
set_option maxRecDepth 100000 in
set_option maxHeartbeats 4000000 in
theorem specFault1 (B:Nat) (ns:List NodeD) (v:Value) (w:World) (hl:ns.length≤1048576) (ha:Nd.At w B v ns):
    Calls Tryz.prog 220 #[v] w fun e w'=>e=.returned (.int .i64 (eFault ns))∧Below w.heap.size w w':=by
 obtain ⟨a,cap,rfl⟩:=ha.slice
 have HA:=hid ha
 clear ha
 by_cases z1:ns.length<1
 ·have HV:=hid (e_many (.inl z1))
  have q:(ns.length:Int)<1:=by omega
  go_enter Tryz.func220,Tryz.ntmps220
  go_wp2
  go_ret
  exact ⟨by rw [HV.out];rfl,Below.refl _ _⟩
 by_cases z2:16<ns.length
 ·have HV:=hid (e_many (.inr z2))
  have q:¬(ns.length:Int)<1:=by omega
  have q':(16:Int)<(ns.length:Int):=by omega
  go_enter Tryz.func220,Tryz.ntmps220
  go_wp2
  go_ret
  exact ⟨by rw [HV.out];rfl,Below.refl _ _⟩
 have HZ:Hid (¬(ns.length<1∨16<ns.length)):=hid (by omega)
 have q:¬(ns.length:Int)<1:=by omega
 have q':¬(16:Int)<(ns.length:Int):=by omega
 go_enter Tryz.func220,Tryz.ntmps220
 go_wp2
 go_loopw [3,4] (fun x _ wr=>∃(i:Nat),x=.int .i64 i∧i≤ns.length∧Hid (eCodeTo ns i=0)∧wr=w) (fun x _ _=>ns.length - (intOf x).toNat)
 case atStart=>exact ⟨0,rfl,Nat.zero_le _,hid rfl,rfl⟩
 case round=>
  obtain ⟨i,rfl,hi,HC,rfl⟩:=hrel
  by_cases hlt:i<ns.length
  ·obtain ⟨g,o,rfl,hg,c0,c1,c2,c3⟩:=HA.out.at hlt
   have q1:(i:Int)<(ns.length:Int):=by omega
   have HN:=hid (specNode ns[i] i g (o+i*4) wr (by omega) (by omega) c0 c1 c2 c3)
   by_cases hc:nCode ns[i] i=0
   ·have HC2:=hid (code_next hlt HC.out hc)
    rw [hc] at HN
    clear hc
    go_wp2_with fail
    refine HN.out.mono ?_
    rintro e w1 ⟨rfl,rfl⟩
    go_wp2
    exact ⟨⟨i+1,by simp,by omega,HC2,trivial⟩,by simp [intOf];omega⟩
   ·have HV:=hid (e_node HZ.out hlt HC.out hc)
    have b1:(nCode ns[i] i != 0)=true:=by simpa using hc
    clear hc
    go_wp2_with fail
    refine HN.out.mono ?_
    rintro e w1 ⟨rfl,rfl⟩
    go_wp2
    go_ret
    exact ⟨by rw [HV.out];rfl,Below.refl _ _⟩
  ·have hin:i=ns.length:=by omega
   rw [hin] at HC
   clear hin
   have HW:=hid (specWalk ns _ wr B HA.out (fun k hk=>code_all HC.out k hk) (by omega) ns.length (ns.length - 1) [] (.slice none 0 0) wr (by omega) (by omega) (by omega) (by simp only [List.length_nil];omega) (Below.refl _ _) (World.ownsRow_nil wr _ _ 1))
   have hcast:(((ns.length - 1:Nat):Nat):Int)=(ns.length:Int) - 1:=by omega
   rw [hcast] at HW
   have HOF:=hid (e_form HZ.out HC.out)
   have HOK:=hid (e_ok HZ.out HC.out)
   have hol:=order_len (ns:=ns) (by omega)
   unfold order at HOF HOK hol
   generalize walkF ns ns.length (ns.length - 1) []=od at *
   go_wp2_with fail
   refine HW.out.mono ?_
   rintro e w1 ⟨⟨u,rfl,ho⟩,hb1⟩
   obtain ⟨a1,d1,rfl⟩:=owns_slice ho
   have HO:=hid ho
   clear ho HW hcast
   by_cases hln:od.length=ns.length
   ·have b1:((od.length:Int) != (ns.length:Int))=false:=by simp;omega
    have HLN:=hid hln
    clear hln
    go_wp2
    go_loop [6] (fun x=>∃(j:Nat),x=.int .i64 j∧j≤od.length∧Hid (∀m (hm:m<od.length),m<j→od[m]=m)) (fun x=>od.length - (intOf x).toNat)
    case atStart=>exact ⟨0,rfl,Nat.zero_le _,hid (fun m _ h=>by omega)⟩
    case round=>
     obtain ⟨j,rfl,hj,HJ⟩:=hrel
     by_cases hlj:j<od.length
     ·have qj:(j:Int)<(od.length:Int):=by omega
      obtain ⟨g1,rfl⟩:∃g1,a1=some ⟨g1,0,none⟩:=by
       obtain ⟨_,⟨e1,e2⟩ | ⟨g',cap',cur,e1,_⟩⟩:=HO.out
       ·omega
       ·cases e1;exact ⟨g',rfl⟩
      have m0:=owns_cell HO.out hlj (by simp [idVals];omega)
      simp only [idVals,List.getElem_map] at m0
      by_cases he:od[j]=j
      ·have b2:((od[j]:Int) != (j:Int))=false:=by simp;omega
       have HJ2:Hid (∀m (hm:m<od.length),m<j+1→od[m]=m):=hid (fun m hm h=>by
        by_cases e:m=j
        ·subst e;exact he
        ·exact HJ.out m hm (by omega))
       clear he
       go_wp2
       exact ⟨⟨j+1,by simp,by omega,HJ2⟩,by simp [intOf];omega⟩
      ·have b2:((od[j]:Int) != (j:Int))=true:=by simp;omega
       have HV:=hid (HOF.out (range_not hlj he))
       clear he
       go_wp2
       go_ret
       exact ⟨by rw [HV.out];rfl,hb1⟩
     ·have HV:=hid (HOK.out (range_of HLN.out (fun m hm=>HJ.out m hm (by omega))))
      go_wp2
      go_ret
      exact ⟨by rw [HV.out];rfl,hb1⟩
   ·have b1:((od.length:Int) != (ns.length:Int))=true:=by simp;omega
    have HV:=hid (HOF.out (fun e=>hln (by rw [e];simp)))
    clear hln
    go_wp2
    go_ret
    exact ⟨by rw [HV.out];rfl,hb1⟩
end Ex
end Go.Proofs.YtccklgopcjilcaaGreatDoor
