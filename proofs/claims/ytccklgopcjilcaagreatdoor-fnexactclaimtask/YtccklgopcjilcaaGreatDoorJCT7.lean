/- Laid together: ImB, ImE, ImS, ImT. -/
import Derived.Test.YtccklgopcjilcaaGreatDoorJCT5
import Derived.Test.YtccklgopcjilcaaGreatDoorJCT6
/- The program's terms: termAt, partAhead. -/
namespace Go.Proofs.YtccklgopcjilcaaGreatDoor
open Go.RowKit
set_option linter.unusedVariables false
namespace Ex
open Nd (NodeD)
def Tm.val:Tm→Value
 | ⟨[],false,n⟩=>.iface 338 (.int .i64 n)
 | ⟨[],true,n⟩=>.iface 339 (.int .i64 n)
 | ⟨[t],_,_⟩=>.iface 342 (.agg #[t.val])
 | ⟨l :: r :: _,_,k⟩=>.iface 344 (.agg #[.int .i64 k,l.val,r.val])
theorem Tm.val_if:∀(t:Tm),∃ty v,t.val=.iface ty v
 | ⟨[],false,n⟩=>⟨_,_,rfl⟩
 | ⟨[],true,n⟩=>⟨_,_,rfl⟩
 | ⟨[t],_,_⟩=>⟨_,_,rfl⟩
 | ⟨l :: r :: _,_,k⟩=>⟨_,_,rfl⟩
def isIf (x:Value):Prop:=x=.nilIface∨∃t v,x=.iface t v
def okTerm (o:Option (Tm × Nat)) (e:Ending):Prop:=match o with
 | some p=>e=.returned (.tuple #[p.1.val,.int .i64 (p.2:Int),.bool true])
 | none=>∃x y,isIf x∧e=.returned (.tuple #[x,.int .i64 y,.bool false])
theorem mkConst (x:Value) (w:World):(Instr.makeInterface 338 x).run Tryz.prog w=.ok (.iface 338 x) w:=by kernel_rfl
theorem mkVar (x:Value) (w:World):(Instr.makeInterface 339 x).run Tryz.prog w=.ok (.iface 339 x) w:=by kernel_rfl
theorem mkNot (x:Value) (w:World):(Instr.makeInterface 342 x).run Tryz.prog w=.ok (.iface 342 x) w:=by kernel_rfl
theorem mkPair (x:Value) (w:World):(Instr.makeInterface 344 x).run Tryz.prog w=.ok (.iface 344 x) w:=by kernel_rfl
theorem implPartNo (v:Value) (x y:Int) (w:World) (hy:-1000≤y) (hy2:y≤1000) (hne:¬x=y - 1):
    Calls Tryz.prog 262 #[v,.int .i64 x,.int .i64 y] w fun e w'=>(∃x y,isIf x∧e=.returned (.tuple #[x,.int .i64 y,.bool false]))∧w'=w:=by
 have b1:(x != y - 1)=true:=by simpa using hne
 clear hne
 go_enter Tryz.func262,Tryz.ntmps262
 go_wp2
 go_ret3
 exact ⟨⟨_,_,.inl rfl,rfl⟩,rfl⟩
theorem implPartYes (o:Option (Tm × Nat)) (v:Value) (x y:Int) (B:Nat) (w:World) (hy:-1000≤y) (hy2:y≤1000) (he:x=y - 1)
    (H:Calls Tryz.prog 256 #[v,.int .i64 x] w fun e w'=>okTerm o e∧Below w.heap.size w w'):
    Calls Tryz.prog 262 #[v,.int .i64 x,.int .i64 y] w fun e w'=>okTerm o e∧Below w.heap.size w w':=by
 have b1:(x != y - 1)=false:=by simpa using he
 have HT:=hid H
 clear he H
 go_enter Tryz.func262,Tryz.ntmps262
 go_wp2_with fail
 refine HT.out.mono ?_
 rintro e w1 ⟨h1,hb1⟩
 cases o with
 | none=>
  obtain ⟨x1,y1,hx,rfl⟩:=h1
  go_wp2
  go_ret3
  exact ⟨⟨_,_,hx,rfl⟩,hb1⟩
 | some p=>
  unfold okTerm at h1
  simp only at h1
  subst h1
  go_wp2
  go_ret3
  exact ⟨rfl,hb1⟩
set_option maxRecDepth 100000 in
set_option maxHeartbeats 8000000 in
theorem implTerm (ns:List NodeD) (v:Value) (B0:Nat) (hok:∀k,k<ns.length→nCode (NJ ns k) k=0) (hns:ns.length≤16):∀(f k:Nat) (w:World),k<ns.length→k<f→Nd.At w B0 v ns→
    Calls Tryz.prog 256 #[v,.int .i64 (k:Int)] w fun e w'=>okTerm (termF ns f k) e∧Below w.heap.size w w'
 | 0,k,w,hk,hf,ha=>by omega
 | f+1,k,w,hk,hf,ha=>by
  have IH:=hid (fun c w h1 h2 h3=>implTerm ns v B0 hok hns f c w h1 h2 h3)
  obtain ⟨a,cap,rfl⟩:=ha.slice
  have HA:=hid ha
  have hnk:=hok k hk
  have HOK:=hid hok
  have HNJ:=hid (NJ_eq hk)
  obtain ⟨g,o,rfl,hg,c0,c1,c2,c3⟩:=ha.at hk
  have q0:(k:Int)<(ns.length:Int):=by omega
  have hb0:Below w.heap.size w (w.alloc (.cells #[.int .i64 ns[k].kind,.int .i64 ns[k].value,.int .i64 ns[k].left,.int .i64 ns[k].right] 210)):=(Below.refl _ w).alloc (Nat.le_refl _) _
  have m1:=mkConst
  have m2:=mkVar
  have m3:=mkNot
  have m4:=mkPair
  clear ha hok
  have hb1:Below w.heap.size w (w.alloc (.cells #[.int .i64 ns[k].kind,.int .i64 ns[k].value,.int .i64 ns[k].left,.int .i64 ns[k].right] 210)):=(Below.refl _ w).alloc (Nat.le_refl _) _
  rcases kinds hnk with e | e | e | ⟨e1,e2,e3⟩
  ·have HV:=hid (t_const (f:=f) e)
   rw [HNJ.out] at e
   rw [e] at c0 hb0
   rw [HNJ.out] at HV
   clear hnk e hb1
   go_enter Tryz.func256,Tryz.ntmps256
   go_wp2
   go_ret3
   exact ⟨by rw [HV.out];rfl,hb0⟩
  ·have HV:=hid (t_var (f:=f) e)
   rw [HNJ.out] at e
   rw [e] at c0 hb0
   rw [HNJ.out] at HV
   clear hnk e hb1
   go_enter Tryz.func256,Tryz.ntmps256
   go_wp2
   go_ret3
   exact ⟨by rw [HV.out];rfl,hb0⟩
  ·have hnl:=n_left hnk (by omega)
   have HN1:=hid (t_not (f:=f) e)
   have HN2:=hid (t_not_none (f:=f) e)
   rw [HNJ.out] at e hnl HN1 HN2
   rw [e] at c0 hb0
   have hA1:=HA.out.below hb0
   by_cases hl:ns[k].left=(k:Int) - 1
   ·have HV:=hid (HN1.out hl)
    have hcast:ns[k].left=((k - 1:Nat):Int):=by omega
    have HT:=hid (IH.out (k - 1) _ (by omega) (by omega) hA1)
    rw [←hcast] at HT
    have HP:=hid (implPartYes (termF ns f (k - 1)) _ ns[k].left k 0 _ (by omega) (by omega) hl HT.out)
    clear hnk e hb1 hA1 hl hcast HT HN1 HN2 hnl
    go_enter Tryz.func256,Tryz.ntmps256
    go_wp2_with fail
    refine HP.out.mono ?_
    rintro e w1 ⟨h1,hb2⟩
    have B2:=hb0.trans (hb2.mono (by simp))
    cases ho:termF ns f (k - 1) with
    | none=>
     rw [ho] at h1 HV
     obtain ⟨x1,y1,hx,rfl⟩:=h1
     rcases hx with rfl | ⟨tx,vx,rfl⟩
     ·go_wp2
      go_ret3
      exact ⟨by rw [HV.out];first | exact ⟨_,_,.inr ⟨_,_,rfl⟩,rfl⟩ | exact ⟨_,_,.inl rfl,rfl⟩,B2⟩
     ·go_wp2
      go_ret3
      exact ⟨by rw [HV.out];first | exact ⟨_,_,.inr ⟨_,_,rfl⟩,rfl⟩ | exact ⟨_,_,.inl rfl,rfl⟩,B2⟩
    | some p=>
     rw [ho] at h1 HV
     unfold okTerm at h1
     simp only at h1
     obtain ⟨ty1,v1,hv1⟩:=p.1.val_if
     rw [hv1] at h1
     subst h1
     have HV1:=hid hv1
     clear hv1
     go_wp2
     go_ret3
     exact ⟨by rw [HV.out];rw [←HV1.out];rfl,B2⟩
   ·have HV:=hid (HN2.out hl)
    have HP:=hid (implPartNo (.slice (some ⟨g,o,none⟩) ns.length cap) ns[k].left k (w.alloc (.cells #[.int .i64 10,.int .i64 ns[k].value,.int .i64 ns[k].left,.int .i64 ns[k].right] 210)) (by omega) (by omega) hl)
    clear hnk e hb1 hA1 hl HN1 HN2 hnl
    go_enter Tryz.func256,Tryz.ntmps256
    go_wp2_with fail
    refine HP.out.mono ?_
    rintro e w1 ⟨⟨x1,y1,hx,rfl⟩,rfl⟩
    rcases hx with rfl | ⟨tx,vx,rfl⟩
    ·go_wp2
     go_ret3
     exact ⟨by rw [HV.out];first | exact ⟨_,_,.inr ⟨_,_,rfl⟩,rfl⟩ | exact ⟨_,_,.inl rfl,rfl⟩,hb0⟩
    ·go_wp2
     go_ret3
     exact ⟨by rw [HV.out];first | exact ⟨_,_,.inr ⟨_,_,rfl⟩,rfl⟩ | exact ⟨_,_,.inl rfl,rfl⟩,hb0⟩
  ·have hnl:=n_left hnk (by omega)
   have hnr:=n_right hnk e1
   have HN1:=hid (t_pair (f:=f) ⟨e2,e3⟩)
   have HN2:=hid (t_pair_none (f:=f) ⟨e2,e3⟩)
   rw [HNJ.out] at e1 e2 e3 hnl hnr HN1 HN2
   have hA1:=HA.out.below hb0
   have d1:(ns[k].kind==1)=false:=beq_eq_false_iff_ne.2 (by omega)
   have d2:(ns[k].kind==2)=false:=beq_eq_false_iff_ne.2 (by omega)
   have d3:(ns[k].kind==10)=false:=beq_eq_false_iff_ne.2 (by omega)
   by_cases hr:ns[k].right=(k:Int) - 1
   ·have HV:=hid (HN1.out hr)
    have hcast:ns[k].right=((k - 1:Nat):Int):=by omega
    have HT:=hid (IH.out (k - 1) _ (by omega) (by omega) hA1)
    rw [←hcast] at HT
    have HP:=hid (implPartYes (termF ns f (k - 1)) _ ns[k].right k 0 _ (by omega) (by omega) hr HT.out)
    have HNL:=hid hnl
    have HLE:Hid (∀t b,termF ns f (k - 1)=some (t,b)→b≤k - 1):=hid (fun t b h=>(term_ok HOK.out f (k - 1) t b (by omega) (by omega) h).1)
    have h1k:1≤k:=by omega
    clear hnk hb1 hA1 hr hcast HT HN1 HN2 hnl hnr e1 e2 e3
    go_enter Tryz.func256,Tryz.ntmps256
    go_wp2_with fail
    refine HP.out.mono ?_
    rintro e w1 ⟨h1,hb2⟩
    have B2:=hb0.trans (hb2.mono (by simp))
    have r0:=kept_cell hb2 (b:=w.heap.size) (o:=0) (v:=.int .i64 ns[k].kind) (by simp) (by go_simp)
    have r2:=kept_cell hb2 (b:=w.heap.size) (o:=2) (v:=.int .i64 ns[k].left) (by simp) (by go_simp)
    cases ho:termF ns f (k - 1) with
    | none=>
     rw [ho] at h1 HV
     obtain ⟨x1,y1,hx,rfl⟩:=h1
     rcases hx with rfl | ⟨tx,vx,rfl⟩
     ·go_wp2
      go_ret3
      exact ⟨by rw [HV.out];first | exact ⟨_,_,.inr ⟨_,_,rfl⟩,rfl⟩ | exact ⟨_,_,.inl rfl,rfl⟩,B2⟩
     ·go_wp2
      go_ret3
      exact ⟨by rw [HV.out];first | exact ⟨_,_,.inr ⟨_,_,rfl⟩,rfl⟩ | exact ⟨_,_,.inl rfl,rfl⟩,B2⟩
    | some p=>
     obtain ⟨t1,b1⟩:=p
     have hb1k:=HLE.out t1 b1 ho
     rw [ho] at h1 HV
     unfold okTerm at h1
     simp only at h1
     obtain ⟨ty1,v1,hv1⟩:=t1.val_if
     rw [hv1] at h1
     subst h1
     have HV1:=hid hv1
     clear hv1
     simp only [Option.bind_some] at HV
     have hA2:=HA.out.below B2
     by_cases hl:ns[k].left=(b1:Int) - 1
     ·rw [if_pos hl] at HV
      have hnl:=HNL.out
      have hcast:ns[k].left=((b1 - 1:Nat):Int):=by omega
      have HT:=hid (IH.out (b1 - 1) w1 (by omega) (by omega) hA2)
      rw [←hcast] at HT
      have HP2:=hid (implPartYes (termF ns f (b1 - 1)) _ ns[k].left b1 0 w1 (by omega) (by omega) hl HT.out)
      have hs1:w.heap.size<w1.heap.size:=by have:=hb2.size;simp at this;omega
      clear hA2 hl hcast HT hnl HP
      go_wp2_with fail
      refine HP2.out.mono ?_
      rintro e w2 ⟨h2,hb3⟩
      have B3:=B2.trans (hb3.mono B2.size)
      have u0:=kept_cell hb3 hs1 r0
      cases ho2:termF ns f (b1 - 1) with
      | none=>
       rw [ho2] at h2 HV
       obtain ⟨x1,y1,hx,rfl⟩:=h2
       rcases hx with rfl | ⟨tx,vx,rfl⟩
       ·go_wp2
        go_ret3
        exact ⟨by rw [HV.out];exact ⟨_,_,.inr ⟨_,_,rfl⟩,rfl⟩,B3⟩
       ·go_wp2
        go_ret3
        exact ⟨by rw [HV.out];exact ⟨_,_,.inr ⟨_,_,rfl⟩,rfl⟩,B3⟩
      | some p2=>
       rw [ho2] at h2 HV
       unfold okTerm at h2
       simp only at h2
       obtain ⟨ty2,v2,hv2⟩:=p2.1.val_if
       rw [hv2] at h2
       subst h2
       have HV2:=hid hv2
       clear hv2
       go_wp2
       go_ret3
       exact ⟨by rw [HV.out];rw [←HV1.out,←HV2.out];rfl,B3⟩
     ·rw [if_neg hl] at HV
      have HP2:=hid (implPartNo (.slice (some ⟨g,o,none⟩) ns.length cap) ns[k].left b1 w1 (by omega) (by omega) hl)
      have hs1:w.heap.size<w1.heap.size:=by have:=hb2.size;simp at this;omega
      clear hA2 hl HP
      go_wp2_with fail
      refine HP2.out.mono ?_
      rintro e w2 ⟨⟨x1,y1,hx,rfl⟩,rfl⟩
      rcases hx with rfl | ⟨tx,vx,rfl⟩
      ·go_wp2
       go_ret3
       exact ⟨by rw [HV.out];exact ⟨_,_,.inr ⟨_,_,rfl⟩,rfl⟩,B2⟩
      ·go_wp2
       go_ret3
       exact ⟨by rw [HV.out];exact ⟨_,_,.inr ⟨_,_,rfl⟩,rfl⟩,B2⟩
   ·have HV:=hid (HN2.out hr)
    have HP:=hid (implPartNo (.slice (some ⟨g,o,none⟩) ns.length cap) ns[k].right k (w.alloc (.cells #[.int .i64 ns[k].kind,.int .i64 ns[k].value,.int .i64 ns[k].left,.int .i64 ns[k].right] 210)) (by omega) (by omega) hr)
    clear hnk hb1 hA1 hr HN1 HN2 hnl hnr e1 e2 e3
    go_enter Tryz.func256,Tryz.ntmps256
    go_wp2_with fail
    refine HP.out.mono ?_
    rintro e w1 ⟨⟨x1,y1,hx,rfl⟩,rfl⟩
    rcases hx with rfl | ⟨tx,vx,rfl⟩
    ·go_wp2
     go_ret3
     exact ⟨by rw [HV.out];first | exact ⟨_,_,.inr ⟨_,_,rfl⟩,rfl⟩ | exact ⟨_,_,.inl rfl,rfl⟩,hb0⟩
    ·go_wp2
     go_ret3
     exact ⟨by rw [HV.out];first | exact ⟨_,_,.inr ⟨_,_,rfl⟩,rfl⟩ | exact ⟨_,_,.inl rfl,rfl⟩,hb0⟩
end Ex
end Go.Proofs.YtccklgopcjilcaaGreatDoor
/- The program's exprTerm and ExprFault. -/
namespace Go.Proofs.YtccklgopcjilcaaGreatDoor
open Go.RowKit
set_option linter.unusedVariables false
namespace Ex
open Nd (NodeD)
def okTop (ns:List NodeD) (e:Ending):Prop:=(∃t,eFault ns=0∧topF ns=some (t,0)∧e=.returned (.tuple #[t.val,.int .i64 0]))∨(eFault ns≠0∧e=.returned (.tuple #[.nilIface,.int .i64 (eFault ns)]))
theorem n_form {n:NodeD} {i:Int} (h:form n=false):nCode n i=1:=by rw [n_code_eq,if_pos h]
theorem n_inside {n:NodeD} {i:Int} (h:form n=true) (h2:inside n i=false):nCode n i=3:=by rw [n_code_eq,if_neg (by simp [h]),if_pos h2]
theorem n_good {n:NodeD} {i:Int} (h:form n=true) (h2:inside n i=true):nCode n i=0:=by rw [n_code_eq,if_neg (by simp [h]),if_neg (by simp [h2])]
theorem bad_top {ns:List NodeD} {c:Int} (h:eFault ns=c) (hc:c≠0) {e:Ending} (he:e=.returned (.tuple #[.nilIface,.int .i64 c])):okTop ns e:=.inr ⟨by rw [h];exact hc,by rw [h];exact he⟩
set_option maxRecDepth 100000 in
set_option maxHeartbeats 8000000 in
theorem implTop (B:Nat) (ns:List NodeD) (v:Value) (w:World) (hl:ns.length≤1048576) (ha:Nd.At w B v ns):
    Calls Tryz.prog 235 #[v] w fun e w'=>okTop ns e∧Below w.heap.size w w':=by
 obtain ⟨a,cap,rfl⟩:=ha.slice
 have HA:=hid ha
 clear ha
 by_cases z1:ns.length<1
 ·have HV:=hid (e_many (.inl z1))
  have q:(ns.length:Int)<1:=by omega
  go_enter Tryz.func235,Tryz.ntmps235
  go_wp2
  go_ret2
  exact ⟨bad_top HV.out (by decide) rfl,Below.refl _ _⟩
 by_cases z2:16<ns.length
 ·have HV:=hid (e_many (.inr z2))
  have q:¬(ns.length:Int)<1:=by omega
  have q':(16:Int)<(ns.length:Int):=by omega
  go_enter Tryz.func235,Tryz.ntmps235
  go_wp2
  go_ret2
  exact ⟨bad_top HV.out (by decide) rfl,Below.refl _ _⟩
 have HZ:Hid (¬(ns.length<1∨16<ns.length)):=hid (by omega)
 have q:¬(ns.length:Int)<1:=by omega
 have q':¬(16:Int)<(ns.length:Int):=by omega
 go_enter Tryz.func235,Tryz.ntmps235
 go_wp2
 go_loopw [4,5,19] (fun _ _ x wr=>∃(i:Nat),x=.int .i64 i∧i≤ns.length∧Hid (eCodeTo ns i=0)∧Hid (Below w.heap.size w wr)) (fun _ _ x _=>ns.length - (intOf x).toNat)
 case atStart=>exact ⟨0,rfl,Nat.zero_le _,hid rfl,hid (Below.refl _ _)⟩
 case round=>
  obtain ⟨i,rfl,hi,HC,HBR⟩:=hrel
  by_cases hlt:i<ns.length
  ·obtain ⟨g,o,rfl,hg,c0,c1,c2,c3⟩:=(HA.out.below HBR.out).at hlt
   have q1:(i:Int)<(ns.length:Int):=by omega
   have HB1:Hid (Below w.heap.size w (wr.alloc (.cells #[.int .i64 ns[i].kind,.int .i64 ns[i].value,.int .i64 ns[i].left,.int .i64 ns[i].right] 210))):=hid (HBR.out.alloc HBR.out.size _)
   have HN:=hid (implForm ns[i] (wr.alloc (.cells #[.int .i64 ns[i].kind,.int .i64 ns[i].value,.int .i64 ns[i].left,.int .i64 ns[i].right] 210)))
   have HC2:=hid (fun (h:nCode ns[i] i=0)=>code_next hlt HC.out h)
   have HV:=hid (fun (h:nCode ns[i] i≠0)=>e_node HZ.out hlt HC.out h)
   have HN2:=hid (fun (w:World) (h:form ns[i]=true)=>implInside ns[i] i w h)
   have HF1:=hid (n_form (n:=ns[i]) (i:=i))
   have HF2:=hid (n_inside (n:=ns[i]) (i:=i))
   have HF3:=hid (n_good (n:=ns[i]) (i:=i))
   generalize ns[i]=nd at *
   have r0:(wr.alloc (.cells #[.int .i64 nd.kind,.int .i64 nd.value,.int .i64 nd.left,.int .i64 nd.right] 210)).heap.size=wr.heap.size+1:=by simp
   go_wp2_with fail
   refine HN.out.mono ?_
   rintro e w1 ⟨rfl,hb1⟩
   have hs1:wr.heap.size<w1.heap.size:=by have:=hb1.size;omega
   have u0:=kept_cell hb1 (b:=wr.heap.size) (o:=0) (v:=.int .i64 nd.kind) (by omega) (by go_simp)
   have u1:=kept_cell hb1 (b:=wr.heap.size) (o:=1) (v:=.int .i64 nd.value) (by omega) (by go_simp)
   have u2:=kept_cell hb1 (b:=wr.heap.size) (o:=2) (v:=.int .i64 nd.left) (by omega) (by go_simp)
   have u3:=kept_cell hb1 (b:=wr.heap.size) (o:=3) (v:=.int .i64 nd.right) (by omega) (by go_simp)
   have HB2:Hid (Below w.heap.size w w1):=hid (HB1.out.trans (hb1.mono HB1.out.size))
   cases hf:form nd
   ·have HV2:=hid (HF1.out hf)
    clear hf HN
    go_wp2
    go_ret2
    exact ⟨bad_top ((HV.out (by rw [HV2.out];decide)).trans HV2.out) (by decide) rfl,HB2.out⟩
   ·have HN3:=hid (HN2.out w1 hf)
    have HF2':=hid (HF2.out hf)
    have HF3':=hid (HF3.out hf)
    clear hf HN HN2
    go_wp2_with fail
    refine HN3.out.mono ?_
    rintro e w2 ⟨rfl,hb2⟩
    have HB3:Hid (Below w.heap.size w w2):=hid (HB2.out.trans (hb2.mono HB2.out.size))
    cases hi2:inside nd i
    ·have HV2:=hid (HF2'.out hi2)
     clear hi2 HN3
     go_wp2
     go_ret2
     exact ⟨bad_top ((HV.out (by rw [HV2.out];decide)).trans HV2.out) (by decide) rfl,HB3.out⟩
    ·have HV2:=hid (HC2.out (HF3'.out hi2))
     clear hi2 HN3
     go_wp2
     exact ⟨⟨i+1,by simp,by omega,HV2,HB3⟩,by simp [intOf];omega⟩
  ·have hin:i=ns.length:=by omega
   rw [hin] at HC
   clear hin
   have HT:=hid (implTerm ns _ B (code_all HC.out) (by omega) ns.length (ns.length - 1) wr (by omega) (by omega) (HA.out.below HBR.out))
   have hcast:(((ns.length - 1:Nat):Nat):Int)=(ns.length:Int) - 1:=by omega
   rw [hcast] at HT
   have HOF:=hid (e_no_top HZ.out HC.out)
   have HOK:Hid (∀t,topF ns=some (t,0)→eFault ns=0):=hid (fun t h=>e_of_top HZ.out HC.out h)
   clear hcast
   go_wp2_with fail
   refine HT.out.mono ?_
   rintro e w1 ⟨h1,hb1⟩
   have HB1:Hid (Below w.heap.size w w1):=hid (HBR.out.trans (hb1.mono HBR.out.size))
   change okTerm (topF ns) e at h1
   cases ho:topF ns with
   | none=>
    rw [ho] at h1
    obtain ⟨x1,y1,hx,rfl⟩:=h1
    have HV:=hid (HOF.out (fun t e=>by rw [ho] at e;cases e))
    clear ho HT
    rcases hx with rfl | ⟨tx,vx,rfl⟩
    ·go_wp2
     go_ret2
     exact ⟨bad_top HV.out (by decide) rfl,HB1.out⟩
    ·go_wp2
     go_ret2
     exact ⟨bad_top HV.out (by decide) rfl,HB1.out⟩
   | some p=>
    obtain ⟨t,b⟩:=p
    have HO:=hid ho
    rw [ho] at h1
    unfold okTerm at h1
    simp only at h1
    obtain ⟨ty1,v1,hv1⟩:=t.val_if
    rw [hv1] at h1
    subst h1
    have HV1:=hid hv1
    clear hv1 HT ho
    by_cases hb:b=0
    ·have b1:((b:Int) != 0)=false:=by simp [hb]
     have HBZ:=hid hb
     clear hb
     go_wp2
     go_ret2
     refine ⟨.inl ⟨t,HOK.out t (by rw [HO.out,HBZ.out]),by rw [HO.out,HBZ.out],by rw [HV1.out];rfl⟩,HB1.out⟩
    ·have b1:((b:Int) != 0)=true:=by simp;omega
     have HV:=hid (HOF.out (fun t' e=>by rw [HO.out] at e;cases e;exact hb rfl))
     clear hb
     go_wp2
     go_ret2
     exact ⟨bad_top HV.out (by decide) rfl,HB1.out⟩
set_option maxRecDepth 100000 in
set_option maxHeartbeats 400000 in
theorem implExprFault (B:Nat) (ns:List NodeD) (v:Value) (w:World) (hl:ns.length≤1048576) (ha:Nd.At w B v ns):
    Calls Tryz.prog 197 #[v] w fun e w'=>e=.returned (.int .i64 (eFault ns))∧Below w.heap.size w w':=by
 have HC:=hid (implTop B ns v w hl ha)
 obtain ⟨a,cap,rfl⟩:=ha.slice
 clear ha
 go_enter Tryz.func197,Tryz.ntmps197
 go_wp2_with fail
 refine HC.out.mono ?_
 rintro e w1 ⟨h1,hb1⟩
 rcases h1 with ⟨t,h0,h1,rfl⟩ | ⟨h0,rfl⟩
 ·obtain ⟨ty1,v1,hv1⟩:=t.val_if
  have HZ:=hid h0
  rw [hv1]
  clear hv1 h0 h1
  go_wp2
  go_ret
  exact ⟨by rw [HZ.out];rfl,hb1⟩
 ·go_wp2
  go_ret
  exact ⟨rfl,hb1⟩
end Ex
end Go.Proofs.YtccklgopcjilcaaGreatDoor
/- What the program's assertions of terms answer. -/
namespace Go.Proofs.YtccklgopcjilcaaGreatDoor
open Go.RowKit
set_option linter.unusedVariables false
namespace Ex
open Nd (NodeD)
theorem asCC (v:Value) (w:World):(Instr.typeAssert (.iface 338 v) 302 338 true).run Tryz.prog w=.ok (.tuple #[v,.bool true]) w:=by kernel_rfl
theorem asCV (v:Value) (w:World):(Instr.typeAssert (.iface 338 v) 302 339 true).run Tryz.prog w=.ok (.tuple #[.int .i64 0,.bool false]) w:=by kernel_rfl
theorem asVC (v:Value) (w:World):(Instr.typeAssert (.iface 339 v) 302 338 true).run Tryz.prog w=.ok (.tuple #[.int .i64 0,.bool false]) w:=by kernel_rfl
theorem asVV (v:Value) (w:World):(Instr.typeAssert (.iface 339 v) 302 339 true).run Tryz.prog w=.ok (.tuple #[v,.bool true]) w:=by kernel_rfl
theorem asNC (v:Value) (w:World):(Instr.typeAssert (.iface 342 v) 302 338 true).run Tryz.prog w=.ok (.tuple #[.int .i64 0,.bool false]) w:=by kernel_rfl
theorem asNV (v:Value) (w:World):(Instr.typeAssert (.iface 342 v) 302 339 true).run Tryz.prog w=.ok (.tuple #[.int .i64 0,.bool false]) w:=by kernel_rfl
theorem asNN (v:Value) (w:World):(Instr.typeAssert (.iface 342 v) 302 342 true).run Tryz.prog w=.ok (.tuple #[v,.bool true]) w:=by kernel_rfl
theorem asPC (v:Value) (w:World):(Instr.typeAssert (.iface 344 v) 302 338 true).run Tryz.prog w=.ok (.tuple #[.int .i64 0,.bool false]) w:=by kernel_rfl
theorem asPV (v:Value) (w:World):(Instr.typeAssert (.iface 344 v) 302 339 true).run Tryz.prog w=.ok (.tuple #[.int .i64 0,.bool false]) w:=by kernel_rfl
theorem asPN (v:Value) (w:World):(Instr.typeAssert (.iface 344 v) 302 342 true).run Tryz.prog w=.ok (.tuple #[.agg #[.nilIface],.bool false]) w:=by kernel_rfl
theorem asPP (v:Value) (w:World):(Instr.typeAssert (.iface 344 v) 302 344 true).run Tryz.prog w=.ok (.tuple #[v,.bool true]) w:=by kernel_rfl
end Ex
end Go.Proofs.YtccklgopcjilcaaGreatDoor
/- The program's types of terms: termType, hasType, pairTypes, TypeOf. -/
namespace Go.Proofs.YtccklgopcjilcaaGreatDoor
open Go.RowKit
set_option linter.unusedVariables false
namespace Ex
open Nd (NodeD)
set_option maxRecDepth 100000 in
set_option maxHeartbeats 1000000 in
theorem implPairTypes (k:Int) (w:World) (h1:3≤k) (h2:k≤9):Calls Tryz.prog 264 #[.int .i64 k] w fun e w'=>e=.returned (.tuple #[.int .i64 (pairAsk k),.int .i64 (pairOwn k)])∧w'=w:=by
 have hkk:k=3∨k=4∨k=5∨k=6∨k=7∨k=8∨k=9:=by omega
 clear h1 h2
 rcases hkk with rfl | rfl | rfl | rfl | rfl | rfl | rfl
 ·go_enter Tryz.func264,Tryz.ntmps264
  go_wp2
  go_ret2
  exact ⟨rfl,rfl⟩
 ·go_enter Tryz.func264,Tryz.ntmps264
  go_wp2
  go_ret2
  exact ⟨rfl,rfl⟩
 ·go_enter Tryz.func264,Tryz.ntmps264
  go_wp2
  go_ret2
  exact ⟨rfl,rfl⟩
 ·go_enter Tryz.func264,Tryz.ntmps264
  go_wp2
  go_ret2
  exact ⟨rfl,rfl⟩
 ·go_enter Tryz.func264,Tryz.ntmps264
  go_wp2
  go_ret2
  exact ⟨rfl,rfl⟩
 ·go_enter Tryz.func264,Tryz.ntmps264
  go_wp2
  go_ret2
  exact ⟨rfl,rfl⟩
 ·go_enter Tryz.func264,Tryz.ntmps264
  go_wp2
  go_ret2
  exact ⟨rfl,rfl⟩
def tyIs (t:Tm) (a:Int):Bool:=t.fit&&(t.ty==a)
set_option maxRecDepth 100000 in
set_option maxHeartbeats 1000000 in
theorem implHasType (t:Tm) (a:Int) (w:World) (H:Calls Tryz.prog 257 #[t.val] w fun e w'=>e=.returned (.tuple #[.int .i64 t.ty,.bool t.fit])∧Below w.heap.size w w'):
    Calls Tryz.prog 263 #[t.val,.int .i64 a] w fun e w'=>e=.returned (.bool (tyIs t a))∧Below w.heap.size w w':=by
 have HT:=hid H
 have HD:Hid (tyIs t a=(t.fit&&(t.ty==a))):=hid rfl
 obtain ⟨ty1,v1,hv1⟩:=t.val_if
 rw [hv1] at HT ⊢
 clear H hv1
 generalize t.ty=y at *
 go_enter Tryz.func263,Tryz.ntmps263
 go_wp2_with fail
 refine HT.out.mono ?_
 rintro e w1 ⟨rfl,hb1⟩
 cases hf:t.fit
 ·rw [hf] at HD
  go_wp2
  go_ret
  exact ⟨by rw [HD.out];rfl,hb1⟩
 ·rw [hf] at HD
  cases he:(y==a)
  ·rw [he] at HD
   go_wp2
   go_ret
   exact ⟨by rw [HD.out];rfl,hb1⟩
  ·rw [he] at HD
   go_wp2
   go_ret
   exact ⟨by rw [HD.out];rfl,hb1⟩
set_option maxRecDepth 100000 in
set_option maxHeartbeats 4000000 in
theorem implTermType:∀(t:Tm) (w:World),t.ok→Calls Tryz.prog 257 #[t.val] w fun e w'=>e=.returned (.tuple #[.int .i64 t.ty,.bool t.fit])∧Below w.heap.size w w'
 | ⟨[],false,n⟩,w,hok=>by
  have a1:=asCC
  have a2:=asCV
  change Calls Tryz.prog 257 #[.iface 338 (.int .i64 n)] w fun e w'=>e=.returned (.tuple #[.int .i64 1,.bool true])∧Below w.heap.size w w'
  go_enter Tryz.func257,Tryz.ntmps257
  go_wp2
  go_ret2
  exact ⟨rfl,Below.refl _ _⟩
 | ⟨[],true,n⟩,w,hok=>by
  have a1:=asVC
  have a2:=asVV
  change Calls Tryz.prog 257 #[.iface 339 (.int .i64 n)] w fun e w'=>e=.returned (.tuple #[.int .i64 1,.bool true])∧Below w.heap.size w w'
  go_enter Tryz.func257,Tryz.ntmps257
  go_wp2
  go_ret2
  exact ⟨rfl,Below.refl _ _⟩
 | ⟨[t],_,_⟩,w,hok=>by
  obtain ⟨hok,rfl,rfl⟩:=hok
  have a1:=asNC
  have a2:=asNV
  have a3:=asNN
  have IH:=hid (fun w=>implHasType t 2 w (implTermType t w hok))
  change Calls Tryz.prog 257 #[.iface 342 (.agg #[t.val])] w fun e w'=>e=.returned (.tuple #[.int .i64 2,.bool (tyIs t 2)])∧Below w.heap.size w w'
  have HB:Hid (Below w.heap.size w (w.alloc (.cells #[t.val] 342))):=hid ((Below.refl _ w).alloc (Nat.le_refl _) _)
  obtain ⟨ty1,v1,hv1⟩:=t.val_if
  rw [hv1] at IH HB ⊢
  clear hv1 hok
  generalize tyIs t 2=ti at *
  go_enter Tryz.func257,Tryz.ntmps257
  go_wp2_with fail
  refine (IH.out _).mono ?_
  rintro e w1 ⟨rfl,hb1⟩
  go_wp2
  go_ret2
  exact ⟨rfl,HB.out.trans (hb1.mono HB.out.size)⟩
 | ⟨l :: r :: _,_,k⟩,w,hok=>by
  obtain ⟨hok,rfl,rfl⟩:=hok
  have a1:=asPC
  have a2:=asPV
  have a3:=asPN
  have a4:=asPP
  have IHL:=hid (fun a w=>implHasType l a w (implTermType l w hok.2.2.1))
  have IHR:=hid (fun a w=>implHasType r a w (implTermType r w hok.2.2.2))
  have HPT:=hid (fun w=>implPairTypes k w hok.1 hok.2.1)
  change Calls Tryz.prog 257 #[.iface 344 (.agg #[.int .i64 k,l.val,r.val])] w fun e w'=>e=.returned (.tuple #[.int .i64 (pairOwn k),.bool (tyIs l (pairAsk k)&&tyIs r (pairAsk k))])∧Below w.heap.size w w'
  have HB:Hid (Below w.heap.size w (w.alloc (.cells #[.int .i64 k,l.val,r.val] 344))):=hid ((Below.refl _ w).alloc (Nat.le_refl _) _)
  obtain ⟨ty1,v1,hv1⟩:=l.val_if
  obtain ⟨ty2,v2,hv2⟩:=r.val_if
  rw [hv1] at IHL HB ⊢
  rw [hv2] at IHR HB ⊢
  clear hv1 hv2 hok
  generalize pairAsk k=ask at *
  generalize pairOwn k=own at *
  go_enter Tryz.func257,Tryz.ntmps257
  go_wp2_with (first
   | (go_at_call 264;refine (HPT.out _).mono ?_;rintro e w1 ⟨rfl,rfl⟩))
  refine (IHL.out ask _).mono ?_
  rintro e w1 ⟨rfl,hb1⟩
  have B1:=HB.out.trans (hb1.mono HB.out.size)
  have u2:=kept_cell hb1 (b:=w.heap.size) (o:=2) (v:=.iface ty2 v2) (by simp) (by go_simp)
  cases h1:tyIs l ask
  ·go_wp2
   go_ret2
   exact ⟨by rw [h1];rfl,B1⟩
  ·go_wp2_with fail
   refine (IHR.out ask _).mono ?_
   rintro e w2 ⟨rfl,hb2⟩
   go_wp2
   go_ret2
   exact ⟨by rw [h1];rfl,B1.trans (hb2.mono B1.size)⟩
set_option maxRecDepth 100000 in
set_option maxHeartbeats 2000000 in
theorem implTypeOf (B:Nat) (ns:List NodeD) (v:Value) (w:World) (hl:ns.length≤1048576) (ha:Nd.At w B v ns):
    Calls Tryz.prog 236 #[v] w fun e w'=>e=.returned (.agg #[.int .i64 (typeCode ns),.int .i64 (typeVal ns)])∧Below w.heap.size w w':=by
 obtain ⟨a,cap,rfl⟩:=ha.slice
 have hb0:Below w.heap.size w (w.alloc (.cells #[.int .i64 0,.int .i64 0] 306)):=(Below.refl _ w).alloc (Nat.le_refl _) _
 have HF:=hid (implTop B ns _ (w.alloc (.cells #[.int .i64 0,.int .i64 0] 306)) hl (ha.below hb0))
 clear ha
 go_enter Tryz.func236,Tryz.ntmps236
 go_wp2_with fail
 refine HF.out.mono ?_
 rintro e w1 ⟨h1,hb1⟩
 have B1:Below w.heap.size w w1:=hb0.trans (hb1.mono (by simp))
 simp only [World.size_alloc] at hb1
 have l1:w.heap.size<w1.heap.size:=by have:=hb1.size;simp at this;omega
 have r0:=kept_cell hb1 (b:=w.heap.size) (o:=0) (v:=.int .i64 0) (by omega) (by go_simp)
 have r1:=kept_cell hb1 (b:=w.heap.size) (o:=1) (v:=.int .i64 0) (by omega) (by go_simp)
 have f0:=kept_free hb1 (b:=w.heap.size) (o:=0) (by omega) (by go_simp)
 have f1:=kept_free hb1 (b:=w.heap.size) (o:=1) (by omega) (by go_simp)
 rcases h1 with ⟨t,h0,h1,rfl⟩ | ⟨h0,rfl⟩
 ·have HT:=hid (implTermType t w1 (top_nodes h0 h1).2.1)
  obtain ⟨g1,g2⟩:=top_fit h0 h1
  have HTB:=hid (fun h=>ty_bad h0 (g1.symm.trans h))
  have HTO:=hid (fun h=>ty_ok h0 (g1.symm.trans h))
  have HTY:=hid g2
  obtain ⟨ty1,v1,hv1⟩:=t.val_if
  rw [hv1] at HT ⊢
  clear hv1 h0 h1 g1 g2 HF
  generalize t.ty=tty at *
  go_wp2_with fail
  refine HT.out.mono ?_
  rintro e w2 ⟨rfl,hb2⟩
  have B2:=B1.trans (hb2.mono B1.size)
  have u0:=kept_cell hb2 l1 r0
  have u1:=kept_cell hb2 l1 r1
  have x0:=kept_free hb2 l1 f0
  have x1:=kept_free hb2 l1 f1
  have l2:w.heap.size<w2.heap.size:=by have:=hb2.size;omega
  cases hfit:t.fit
  ·have HV:=hid (HTB.out hfit)
   clear hfit
   go_wp2
   exact bodyPost_ret (v:=.agg #[.int .i64 7,.int .i64 0]) (by simp [results,Tryz.results236,go_sem,u0,u1]) rfl ⟨ret_two HV.out.1.symm HV.out.2.symm,setB (setB B2 (Nat.le_refl _) _) (Nat.le_refl _) _⟩
  ·have HV:=hid (HTO.out hfit)
   clear hfit
   go_wp2
   exact bodyPost_ret (v:=.agg #[.int .i64 0,.int .i64 tty]) (by simp [results,Tryz.results236,go_sem,u0,u1]) rfl ⟨ret_two HV.out.1.symm (HTY.out.trans HV.out.2.symm),setB (setB B2 (Nat.le_refl _) _) (Nat.le_refl _) _⟩
 ·have HV:=hid (ty_fault h0)
  have b1:(eFault ns != 0)=true:=by simpa using h0
  clear h0 HF
  generalize eFault ns=ef at *
  go_wp2
  exact bodyPost_ret (v:=.agg #[.int .i64 ef,.int .i64 0]) (by simp [results,Tryz.results236,go_sem,r0,r1]) rfl ⟨ret_two HV.out.1.symm HV.out.2.symm,setB (setB B1 (Nat.le_refl _) _) (Nat.le_refl _) _⟩
end Ex
end Go.Proofs.YtccklgopcjilcaaGreatDoor
