/- Laid together: EmA, EmB, EmC. -/
import Derived.Test.YtccklgopcjilcaaGreatDoorJCT12
import Derived.Test.YtccklgopcjilcaaGreatDoorJCT10
import Derived.Test.YtccklgopcjilcaaGreatDoorJCT14
import Derived.Test.YtccklgopcjilcaaGreatDoorJCT11
import Derived.Test.YtccklgopcjilcaaGreatDoorJCT47
import Derived.Test.YtccklgopcjilcaaGreatDoorJCT31
/- The law's marks in rows of processes and of steps that it has handed in: they are written into these rows alone. -/
namespace Go.Proofs.YtccklgopcjilcaaGreatDoor
open Go.RowKit
set_option linter.unusedVariables false
namespace St
open Ex (hid)
open Nd (NodeD)
theorem wt_take_le (ss:List StepD) (k:Nat):wt (ss.take k)≤wt ss:=by
 induction ss generalizing k with
 | nil=>simp [wt]
 | cons s ss ih=>
  cases k with
  | zero=>simp [wt]
  | succ k=>have:=ih k;simp only [List.take_succ_cons,wt];omega
theorem len_le_wt (ss:List StepD):ss.length≤wt ss:=by
 induction ss with
 | nil=>simp [wt]
 | cons s ss ih=>simp only [List.length_cons,wt];omega
set_option maxRecDepth 100000 in
set_option maxHeartbeats 8000000 in
theorem markSteps2 (B C:Nat) (v:Value) (ss:List StepD) (k0:Int) (w:World) (h0:1≤k0) (hk0:k0≤1000000000) (hwt:wt ss≤1048576) (h:Own w B C v ss.length (lenC ss) (lenE ss)):
    Calls Tryz.prog 52 #[v,.int .i64 k0] w fun e w'=>(∃r:Int,e=.returned (.int .i64 r)∧k0≤r∧r≤k0+4*(wt ss:Int))∧Amid w w' B C:=by
 obtain ⟨g,f,rfl,hB,hC,hr,ho⟩:=h
 have HR:=hid hr
 have HO:=hid ho
 have HS:Hid (∀j,j<ss.length→wt (ss.take j)+1+lenC ss j+lenE ss j≤wt (ss.take (j+1))):=hid (fun j hj=>by
  rw [wt_take hj,lenC_eq hj,lenE_eq hj];unfold wt1;omega)
 have HT:Hid (∀j,wt (ss.take j)≤1048576):=hid (fun j=>Nat.le_trans (wt_take_le ss j) hwt)
 have HE:Hid (wt (ss.take ss.length)=wt ss):=hid (by rw [List.take_of_length_le (Nat.le_refl _)])
 have hwt0:(wt ss:Int)≤1048576:=by omega
 obtain ⟨n,hn⟩:∃n,Hid (n=ss.length):=⟨_,hid rfl⟩
 rw [←hn.out] at HR HO HS HE ⊢
 have hn2:n≤1048576:=by rw [hn.out];exact Nat.le_trans (len_le_wt ss) hwt
 obtain ⟨mc,hmcE⟩:∃mc,Hid (mc=lenC ss):=⟨_,hid rfl⟩
 obtain ⟨me,hmeE⟩:∃me,Hid (me=lenE ss):=⟨_,hid rfl⟩
 rw [←hmcE.out] at HO HS
 rw [←hmeE.out] at HO HS
 obtain ⟨W,hW⟩:∃W:Nat→Nat,Hid (W=fun j=>wt (ss.take j)):=⟨_,hid rfl⟩
 replace HS:Hid (∀j,j<n→W j+1+mc j+me j≤W (j+1)):=hid (fun j hj=>by rw [hW.out];exact HS.out j hj)
 replace HT:Hid (∀j,W j≤1048576):=hid (fun j=>by rw [hW.out];exact HT.out j)
 replace HE:Hid (W n=wt ss):=hid (by rw [hW.out];exact HE.out)
 have hW0:W 0=0:=by rw [hW.out];rfl
 have HW0:=hid hW0
 clear hr ho hwt hwt0 hW0
 go_enter Tryz.func52,Tryz.ntmps52
 go_wp2
 go_loopw [1,5] (fun q i wr=>∃(j:Nat) (k:Int) (f':Nat→Value),i=.int .i64 j∧q=.int .i64 k∧k0≤k∧k≤k0+4*(W j:Int)∧j≤n∧Hid (wr.rowIs g 164 (n*6) f')∧Hid (∀i,i<n→Nd.Own wr (g+1) C (f' (i*6+4)) (mc i)∧Nd.Own wr (g+1) C (f' (i*6+5)) (me i))∧Hid (Amid w wr B C)) (fun _ i _=>n - (intOf i).toNat)
 case atStart=>exact ⟨0,k0,f,rfl,rfl,by omega,by rw [HW0.out];omega,Nat.zero_le _,HR,HO,hid (Amid.refl _ _ _)⟩
 case round=>
  obtain ⟨j,k,f',rfl,rfl,hk1,hk2,hj,HW,HV,HAM⟩:=hrel
  by_cases hlt:j<n
  ·have q1:(j:Int)<(n:Int):=by omega
   have hws:=HS.out j hlt
   have hwt:=HT.out (j+1)
   have hmj:mc j≤1048576:=by omega
   have hmj2:me j≤1048576:=by omega
   have d0:=HW.out.cell (i:=j*6) (by omega)
   have d1:=HW.out.cell (i:=j*6+1) (by omega)
   have z0:=HW.out.frozen (j*6)
   have z1:=HW.out.frozen (j*6+1)
   have hgl:=HW.out.lt
   have HR1:=hid ((HW.out.set (j*6) (.int .i64 k)).set (j*6+1) (.int .i64 (k+1)))
   have HA1:=hid ((HAM.out.trans (Amid.set wr (j*6) (.int .i64 k) hB hC)).trans (Amid.set _ (j*6+1) (.int .i64 (k+1)) hB hC))
   have HV1:Hid (∀i,i<n→Nd.Own ((wr.setCell ⟨g,j*6,none⟩ (.int .i64 k)).setCell ⟨g,j*6+1,none⟩ (.int .i64 (k+1))) (g+1) C (f' (i*6+4)) (mc i)∧Nd.Own ((wr.setCell ⟨g,j*6,none⟩ (.int .i64 k)).setCell ⟨g,j*6+1,none⟩ (.int .i64 (k+1))) (g+1) C (f' (i*6+5)) (me i)):=hid (fun i hi=>⟨ownSet (ownSet (HV.out i hi).1 (by omega) _) (by omega) _,ownSet (ownSet (HV.out i hi).2 (by omega) _) (by omega) _⟩)
   go_wp2_with fail
   generalize (wr.setCell ⟨g,j*6,none⟩ (.int .i64 k)).setCell ⟨g,j*6+1,none⟩ (.int .i64 (k+1))=wA at *
   refine (markText' _ _ (by omega) (by omega)).mono ?_
   rintro e w1 ⟨⟨s1,rfl⟩,hb1⟩
   have hr1:=HR1.out.of_block (w':=w1) (hb1.block _ HR1.out.lt)
   have d2:=hr1.cell (i:=j*6+2) (by omega)
   have d3:=hr1.cell (i:=j*6+3) (by omega)
   have z2:=hr1.frozen (j*6+2)
   have z3:=hr1.frozen (j*6+3)
   have hgl1:=hr1.lt
   have HR2:=hid ((hr1.set (j*6+2) (.string s1)).set (j*6+3) (.int .i64 (k+1+1+1)))
   have HA2:=hid (((HA1.out.trans (Amid.of_below hb1)).trans (Amid.set w1 (j*6+2) (.string s1) hB hC)).trans (Amid.set _ (j*6+3) (.int .i64 (k+1+1+1)) hB hC))
   have HV2:Hid (∀i,i<n→Nd.Own ((w1.setCell ⟨g,j*6+2,none⟩ (.string s1)).setCell ⟨g,j*6+3,none⟩ (.int .i64 (k+1+1+1))) (g+1) C (f' (i*6+4)) (mc i)∧Nd.Own ((w1.setCell ⟨g,j*6+2,none⟩ (.string s1)).setCell ⟨g,j*6+3,none⟩ (.int .i64 (k+1+1+1))) (g+1) C (f' (i*6+5)) (me i)):=hid (fun i hi=>⟨ownSet (ownSet (ownBelow (HV1.out i hi).1 hb1) (by omega) _) (by omega) _,ownSet (ownSet (ownBelow (HV1.out i hi).2 hb1) (by omega) _) (by omega) _⟩)
   generalize hF2:(fun i=>if i=j*6+3 then Value.int .i64 (k+1+1+1) else (fun i=>if i=j*6+2 then Value.string s1 else (fun i=>if i=j*6+1 then Value.int .i64 (k+1) else (fun i=>if i=j*6 then Value.int .i64 k else f' i) i) i) i)=F2 at *
   have e4:∀i,F2 (i*6+4)=f' (i*6+4):=fun i=>by
    have h1:¬i*6+4=j*6+3:=by omega
    have h2:¬i*6+4=j*6+2:=by omega
    have h3:¬i*6+4=j*6+1:=by omega
    have h4:¬i*6+4=j*6:=by omega
    rw [←hF2]
    simp only [h1,h2,h3,h4,if_false]
   have e5:∀i,F2 (i*6+5)=f' (i*6+5):=fun i=>by
    have h1:¬i*6+5=j*6+3:=by omega
    have h2:¬i*6+5=j*6+2:=by omega
    have h3:¬i*6+5=j*6+1:=by omega
    have h4:¬i*6+5=j*6:=by omega
    rw [←hF2]
    simp only [h1,h2,h3,h4,if_false]
   have E4:=hid e4
   have E5:=hid e5
   have c4:=HR2.out.cell (i:=j*6+4) (by omega)
   have c5:=HR2.out.cell (i:=j*6+5) (by omega)
   rw [e4] at c4
   rw [e5] at c5
   have hoc:=(HV2.out j hlt).1
   obtain ⟨gc,fc,hvc,hgc1,hgc2,hrc⟩:=hoc
   obtain ⟨ge,fe,hve,hge1,hge2,hre⟩:=(HV2.out j hlt).2
   have HVE:=hid hve
   rw [hvc] at c4
   have hgl2:=HR2.out.lt
   have HRC:=hid hrc
   clear hF2 hvc e4 e5 hrc hre hr1 c5
   go_wp2_with fail
   generalize (w1.setCell ⟨g,j*6+2,none⟩ (.string s1)).setCell ⟨g,j*6+3,none⟩ (.int .i64 (k+1+1+1))=wB at *
   refine (markNodes gc (mc j) fc (k+1+1+1+1) _ hmj (by omega) (by omega) HRC.out).mono ?_
   rintro e w4 ⟨⟨r4,rfl,hr4a,hr4b⟩,hf4,hA4⟩
   have HV4:Hid (∀i,i<n→Nd.Own w4 (g+1) C (f' (i*6+4)) (mc i)∧Nd.Own w4 (g+1) C (f' (i*6+5)) (me i)):=hid (fun i hi=>⟨ownAmid (HV2.out i hi).1 hA4 HRC.out hf4,ownAmid (HV2.out i hi).2 hA4 HRC.out hf4⟩)
   have HR4:=hid (HR2.out.of_block (w':=w4) (hA4.block g HR2.out.lt (.inl (by omega))))
   have HA4:=hid (HA2.out.trans (hA4.mono (by omega) (by omega)))
   have c5:=HR4.out.cell (i:=j*6+5) (by omega)
   have hgl4:=HR4.out.lt
   rw [E5.out] at c5
   obtain ⟨ge',fe',hve',hge1',hge2',hre'⟩:=(HV4.out j hlt).2
   rw [hve'] at c5
   have HRE:=hid hre'
   clear hve' hre' hf4 hA4
   go_wp2_with fail
   refine (markNodes ge' (me j) fe' r4 _ hmj2 (by omega) (by omega) HRE.out).mono ?_
   rintro e w5 ⟨⟨r5,rfl,hr5a,hr5b⟩,hf5,hA5⟩
   have HV5:Hid (∀i,i<n→Nd.Own w5 (g+1) C (F2 (i*6+4)) (mc i)∧Nd.Own w5 (g+1) C (F2 (i*6+5)) (me i)):=hid (fun i hi=>by
    rw [E4.out,E5.out]
    exact ⟨ownAmid (HV4.out i hi).1 hA5 HRE.out hf5,ownAmid (HV4.out i hi).2 hA5 HRE.out hf5⟩)
   have HR5:=hid (HR4.out.of_block (w':=w5) (hA5.block g HR4.out.lt (.inl (by omega))))
   have HA5:=hid (HA4.out.trans (hA5.mono (by omega) (by omega)))
   clear hf5 hA5
   go_wp2
   exact ⟨⟨j+1,r5,F2,by simp,rfl,by omega,by omega,by omega,HR5,HV5,HA5⟩,by simp [intOf];omega⟩
  ·obtain rfl:j=n:=by omega
   go_wp2
   go_ret
   exact ⟨⟨_,rfl,hk1,by rw [←HE.out];exact hk2⟩,HAM.out⟩
end St
namespace Ep
open Ex (hid)
open St (StepD Amid lenC lenE)
theorem wt_take_le (ss:List (List StepD)) (k:Nat):wt (ss.take k)≤wt ss:=by
 induction ss generalizing k with
 | nil=>simp [wt]
 | cons s ss ih=>
  cases k with
  | zero=>simp [wt]
  | succ k=>have:=ih k;simp only [List.take_succ_cons,wt];omega
theorem len_le_wt (ss:List (List StepD)):ss.length≤wt ss:=by
 induction ss with
 | nil=>simp [wt]
 | cons s ss ih=>simp only [List.length_cons,wt];omega
theorem wt_mem {ss:List (List StepD)} {j:Nat} (h:j<ss.length):St.wt ss[j]≤wt ss:=by
 have h1:=wt_take h
 have h2:=wt_take_le ss (j+1)
 unfold wt1 at h1;omega
set_option maxRecDepth 100000 in
set_option maxHeartbeats 4000000 in
theorem markS (B C:Nat) (v:Value) (ss:List (List StepD)) (k0:Int) (w:World) (h0:1≤k0) (hk0:k0≤100000000) (hwt:wt ss≤1048576) (h:Own w B C v ss.length ss):
    Calls Tryz.prog 15 #[v,.int .i64 k0] w fun e w'=>(∃r:Int,e=.returned (.int .i64 r)∧k0≤r∧r≤k0+4*(wt ss:Int))∧Amid w w' B C:=by
 obtain ⟨g,f,rfl,hB,hC,hr,lo,hi,hv,ho⟩:=h
 have HR:=hid hr
 have HO:Hid (∀j (h:j<ss.length),St.Own w (lo j) (hi j) (f j) ss[j].length (lenC ss[j]) (lenE ss[j])):=hid ho
 have HV:=hid hv
 have HS:Hid (∀j (h:j<ss.length),wt (ss.take (j+1))=wt (ss.take j)+1+St.wt ss[j]):=hid (fun j hj=>wt_take hj)
 have HT:Hid (∀j,wt (ss.take j)≤1048576):=hid (fun j=>Nat.le_trans (wt_take_le ss j) hwt)
 have HE:Hid (wt (ss.take ss.length)=wt ss):=hid (by rw [List.take_of_length_le (Nat.le_refl _)])
 have hn2:ss.length≤1048576:=Nat.le_trans (len_le_wt ss) hwt
 have HM:Hid (∀j (h:j<ss.length),St.wt ss[j]≤1048576):=hid (fun j h=>Nat.le_trans (wt_mem h) hwt)
 clear hr ho hv hwt
 go_enter Tryz.func15,Tryz.ntmps15
 go_wp2
 go_loopw [1,5] (fun q i wr=>∃(j:Nat) (k:Int),i=.int .i64 j∧q=.int .i64 k∧k0≤k∧k≤k0+4*(wt (ss.take j):Int)∧j≤ss.length∧Hid (wr.rowIs g 89 (ss.length*1) f)∧Hid (∀i (h:i<ss.length),j≤i→St.Own wr (lo i) (hi i) (f i) ss[i].length (lenC ss[i]) (lenE ss[i]))∧Hid (Amid w wr B C)) (fun _ i _=>ss.length - (intOf i).toNat)
 case atStart=>exact ⟨0,k0,rfl,rfl,by omega,by simp [wt],Nat.zero_le _,HR,hid (fun i h _=>HO.out i h),hid (Amid.refl _ _ _)⟩
 case round=>
  obtain ⟨j,k,rfl,rfl,hk1,hk2,hj,HW,HQ,HAM⟩:=hrel
  by_cases hlt:j<ss.length
  ·have q1:(j:Int)<(ss.length:Int):=by omega
   have c0:wr.cell? ⟨g,j,none⟩=some (f j):=HW.out.cell (i:=j) (by omega)
   have hgl:=HW.out.lt
   have hown:=HQ.out j hlt (Nat.le_refl _)
   have hws:=HS.out j hlt
   have hwt:=HT.out (j+1)
   have hwm:=HM.out j hlt
   obtain ⟨g1,f1,hv1,_⟩:=id hown
   have HC:=hid (St.markSteps2 (lo j) (hi j) (f j) ss[j] k wr (by omega) (by omega) hwm hown)
   rw [hv1] at c0 HC
   have hiv:=HV.out.base j hlt
   clear hown hv1
   go_wp2_with fail
   refine HC.out.mono ?_
   rintro e w1 ⟨⟨r,rfl,hr1,hr2⟩,ham⟩
   have HW1:=hid (HW.out.of_block (w':=w1) (ham.block g HW.out.lt (.inl (by omega))))
   have HQ1:Hid (∀i (h:i<ss.length),j+1≤i→St.Own w1 (lo i) (hi i) (f i) ss[i].length (lenC ss[i]) (lenE ss[i])):=hid (fun i hi' hji=>own1Kept (HQ.out i hi' (by omega)) (fun b hb1 hb2 hb3=>ham.block b hb3 (by have:=HV.out.sep j i (by omega) hi';omega)))
   have HA1:=hid (HAM.out.trans (ham.mono (by omega) hiv.2))
   clear ham HC
   go_wp2
   exact ⟨⟨j+1,r,by simp,rfl,by omega,by omega,by omega,HW1,HQ1,HA1⟩,by simp [intOf];omega⟩
  ·obtain rfl:j=ss.length:=by omega
   go_wp2
   go_ret
   exact ⟨⟨_,rfl,hk1,by rw [←HE.out];exact hk2⟩,HAM.out⟩
end Ep
end Go.Proofs.YtccklgopcjilcaaGreatDoor
/- The law's marks in rows of instances, in an engine, in rows of claims and in a desk that it has handed in: they are written into these rows alone. -/
namespace Go.Proofs.YtccklgopcjilcaaGreatDoor
open Go.RowKit Go.Deep
set_option linter.unusedVariables false
namespace Ei
open Ex (hid)
open St (Amid)
open Ch (OwnC Rows3 RunD markL)
theorem turned {w w':World} {B C g m m2:Nat} {f:Nat→Value} {v:Value} (hr:w.rowIs g 2 (m*1) f) (hr':∃f',w'.rowIs g 2 (m*1) f') (ha:Amid w w' g (g+1)) (h:OwnC w B C v m2):OwnC w' B C v m2:=by
 obtain ⟨g2,f2,rfl,b1,b2,r2⟩:=h
 by_cases e:g2=g
 ·subst e
  obtain ⟨c,hc,hs,_⟩:=hr
  obtain ⟨c2,hc2,hs2,_⟩:=r2
  have e2:c=c2:=by rw [hc] at hc2;cases hc2;rfl
  obtain ⟨f',hf'⟩:=hr'
  have e3:m*1=m2*1:=by rw [←hs,←hs2,e2]
  exact ⟨g2,f',rfl,b1,b2,by rw [←e3];exact hf'⟩
 ·exact ⟨g2,f2,rfl,b1,b2,r2.of_block (ha.block g2 r2.lt (by omega))⟩
theorem rows_turned {w w':World} {B C g m:Nat} {f:Nat→Value} {v1 v2 v3:Value} {r:RunD} (hr:w.rowIs g 2 (m*1) f) (hr':∃f',w'.rowIs g 2 (m*1) f') (ha:Amid w w' g (g+1)) (h:Rows3 w B C v1 v2 v3 r):Rows3 w' B C v1 v2 v3 r:=
 ⟨turned hr hr' ha h.vars,turned hr hr' ha h.marks,turned hr hr' ha h.dues⟩
theorem ownc_kept {w w':World} {B C m:Nat} {v:Value} (h:OwnC w B C v m) (hb:∀b,B≤b→w'.heap[b]?=w.heap[b]?):OwnC w' B C v m:=by
 obtain ⟨g,f,rfl,b1,b2,r⟩:=h
 exact ⟨g,f,rfl,b1,b2,r.of_block (hb g b1)⟩
theorem rows_kept {w w':World} {B C:Nat} {v1 v2 v3:Value} {r:RunD} (h:Rows3 w B C v1 v2 v3 r) (hb:∀b,B≤b→w'.heap[b]?=w.heap[b]?):Rows3 w' B C v1 v2 v3 r:=
 ⟨ownc_kept h.vars hb,ownc_kept h.marks hb,ownc_kept h.dues hb⟩
theorem set3 {w:World} {g n j:Nat} {t:TypeId} {f:Nat→Value} (h:w.rowIs g t (n*6) f) (x y z:Value):
    ∃f',(((w.setCell ⟨g,j*6,none⟩ x).setCell ⟨g,j*6+1,none⟩ y).setCell ⟨g,j*6+1+1,none⟩ z).rowIs g t (n*6) f'∧∀i,f' (i*6+3)=f (i*6+3)∧f' (i*6+4)=f (i*6+4)∧f' (i*6+5)=f (i*6+5):=by
 refine ⟨_,((h.set (j*6) x).set (j*6+1) y).set (j*6+1+1) z,fun i=>?_⟩
 have n1:∀a c,3≤a→a<6→c<3→¬i*6+a=j*6+c:=by omega
 have q:∀a,3≤a→a<6→(if i*6+a=j*6+1+1 then z else if i*6+a=j*6+1 then y else if i*6+a=j*6 then x else f (i*6+a))=f (i*6+a):=fun a h1 h2=>by
  rw [if_neg (n1 a 2 h1 h2 (by omega)),if_neg (n1 a 1 h1 h2 (by omega)),if_neg (show ¬i*6+a=j*6 by omega)]
 exact ⟨q 3 (by omega) (by omega),q 4 (by omega) (by omega),q 5 (by omega) (by omega)⟩
theorem amid_set {w W:World} {B C g o:Nat} {u:Value} (h:Amid W w B C) (h1:B≤g) (h2:g<C):Amid W (w.setCell ⟨g,o,none⟩ u) B C:=
 ⟨h.os,h.tape,h.output,by simp only [World.setCell,Array.size_modify];exact h.size,fun b hb ho=>(Below.heap_setCell _ _ _ _ (by dsimp only;omega)).trans (h.block b hb ho)⟩
set_option maxRecDepth 100000 in
set_option maxHeartbeats 8000000 in
theorem markS (B C:Nat) (v:Value) (is:List InstD) (k0:Int) (w:World) (h0:1≤k0) (hk0:k0≤100000000) (hs:Small 1048576 is) (h:Own w B C v is.length is):
    Calls Tryz.prog 78 #[v,.int .i64 k0] w fun e w'=>(∃r:Int,e=.returned (.int .i64 r)∧k0≤r∧r≤k0+3145731*(is.length:Int))∧Amid w w' B C:=by
 obtain ⟨g,f,rfl,hB,hC,hr,ho⟩:=h
 have hln:=hs.1
 have HS:=hid hs
 have HR:=hid hr
 have HO:Hid (∀j (h:j<is.length),Rows3 w (g+1) C (f (j*6+3)) (f (j*6+4)) (f (j*6+5)) is[j].chart):=hid ho
 clear hr ho hs
 go_enter Tryz.func78,Tryz.ntmps78
 go_wp2
 go_loopw [1,5] (fun q i wr=>∃(j:Nat) (k:Int) (f':Nat→Value),i=.int .i64 j∧q=.int .i64 k∧k0≤k∧k≤k0+3145731*(j:Int)∧j≤is.length∧Hid (wr.rowIs g 114 (is.length*6) f')∧Hid (∀i,f' (i*6+3)=f (i*6+3)∧f' (i*6+4)=f (i*6+4)∧f' (i*6+5)=f (i*6+5))∧Hid (∀j (h:j<is.length),Rows3 wr (g+1) C (f (j*6+3)) (f (j*6+4)) (f (j*6+5)) is[j].chart)∧Hid (Amid w wr B C)) (fun _ i _=>is.length - (intOf i).toNat)
 case atStart=>exact ⟨0,k0,f,rfl,rfl,by omega,by omega,Nat.zero_le _,HR,hid (fun i=>⟨rfl,rfl,rfl⟩),HO,hid (Amid.refl _ _ _)⟩
 case round=>
  obtain ⟨j,k,f',rfl,rfl,hk1,hk2,hj,HW,HF,HQ,HA⟩:=hrel
  by_cases hlt:j<is.length
  ·have q1:(j:Int)<(is.length:Int):=by omega
   have c0:wr.cell? ⟨g,j*6,none⟩=some (f' (j*6)):=HW.out.cell (by omega)
   have c1:wr.cell? ⟨g,j*6+1,none⟩=some (f' (j*6+1)):=HW.out.cell (by omega)
   have c2:wr.cell? ⟨g,j*6+1+1,none⟩=some (f' (j*6+1+1)):=HW.out.cell (by omega)
   have r0:=HW.out.frozen (j*6)
   have r1:=HW.out.frozen (j*6+1)
   have r2:=HW.out.frozen (j*6+1+1)
   obtain ⟨fA,hRA,hFA⟩:=set3 (j:=j) HW.out (.int .i64 k) (.int .i64 (k+1)) (.int .i64 (k+1+1))
   obtain ⟨wA,eA⟩:∃wA,wA=((wr.setCell ⟨g,j*6,none⟩ (.int .i64 k)).setCell ⟨g,j*6+1,none⟩ (.int .i64 (k+1))).setCell ⟨g,j*6+1+1,none⟩ (.int .i64 (k+1+1)):=⟨_,rfl⟩
   rw [←eA] at hRA
   have HFA:Hid (∀i,fA (i*6+3)=f (i*6+3)∧fA (i*6+4)=f (i*6+4)∧fA (i*6+5)=f (i*6+5)):=hid (fun i=>⟨(hFA i).1.trans (HF.out i).1,(hFA i).2.1.trans (HF.out i).2.1,(hFA i).2.2.trans (HF.out i).2.2⟩)
   have HAA:Hid (Amid w wA B C):=hid (by rw [eA];exact amid_set (amid_set (amid_set HA.out hB hC) hB hC) hB hC)
   have hkp:∀b,g+1≤b→wA.heap[b]?=wr.heap[b]?:=fun b hb=>by rw [eA];repeat rw [Below.heap_setCell _ _ _ _ (by dsimp only;omega)]
   have HQA:Hid (∀j (h:j<is.length),Rows3 wA (g+1) C (f (j*6+3)) (f (j*6+4)) (f (j*6+5)) is[j].chart):=hid (fun i hi=>rows_kept (HQ.out i hi) hkp)
   have hrow:=HQA.out j hlt
   have hsm:=HS.out.at hlt
   have sv:=hsm.vars
   have sm:=hsm.marks
   have sd:=hsm.dues
   obtain ⟨g1,f1,e1,p1,p1',rr1⟩:=hrow.vars
   have m3:wr.cell? ⟨g,j*6+1+2,none⟩=some (.slice (some ⟨g1,0,none⟩) is[j].chart.vars.length is[j].chart.vars.length):=by rw [←e1,←(HF.out j).1];exact HW.out.cell (by omega)
   have HM1:=hid (markL g1 is[j].chart.vars.length f1 (k+1+1+1) wA (by omega) (by omega) (by omega) rr1)
   have HRA:=hid hRA
   have HR1:=hid rr1
   have la:=hRA.lt
   clear hRA hFA hkp hrow hsm e1 rr1 HF HQ HA HW
   go_wp2_with fail
   rw [←eA]
   clear eA c0 c1 c2 r0 r1 r2
   refine HM1.out.mono ?_
   rintro e w4 ⟨rfl,hv4,hg4⟩
   have HRB:Hid (w4.rowIs g 114 (is.length*6) fA):=hid (HRA.out.of_block (hg4.block g HRA.out.lt (.inl (by omega))))
   have HQB:Hid (∀j (h:j<is.length),Rows3 w4 (g+1) C (f (j*6+3)) (f (j*6+4)) (f (j*6+5)) is[j].chart):=hid (fun i hi=>rows_turned HR1.out hv4 hg4 (HQA.out i hi))
   have HAB:Hid (Amid w w4 B C):=hid (HAA.out.trans (hg4.mono (by omega) (by omega)))
   obtain ⟨g2,f2,e2,p2,p2',rr2⟩:=(HQB.out j hlt).marks
   have m4:w4.cell? ⟨g,j*6+1+3,none⟩=some (.slice (some ⟨g2,0,none⟩) is[j].chart.marks.length is[j].chart.marks.length):=by rw [←e2,←(HFA.out j).2.1];exact HRB.out.cell (by omega)
   have HM2:=hid (markL g2 is[j].chart.marks.length f2 (k+1+1+1+(is[j].chart.vars.length:Int)) w4 (by omega) (by omega) (by omega) rr2)
   have HR2:=hid rr2
   have lb:=HRB.out.lt
   clear hv4 hg4 HM1 HR1 HQA HAA HRA la m3 e2 rr2
   go_wp2_with fail
   refine HM2.out.mono ?_
   rintro e w5 ⟨rfl,hv5,hg5⟩
   have HRC:Hid (w5.rowIs g 114 (is.length*6) fA):=hid (HRB.out.of_block (hg5.block g HRB.out.lt (.inl (by omega))))
   have HQC:Hid (∀j (h:j<is.length),Rows3 w5 (g+1) C (f (j*6+3)) (f (j*6+4)) (f (j*6+5)) is[j].chart):=hid (fun i hi=>rows_turned HR2.out hv5 hg5 (HQB.out i hi))
   have HAC:Hid (Amid w w5 B C):=hid (HAB.out.trans (hg5.mono (by omega) (by omega)))
   obtain ⟨g3,f3,e3,p3,p3',rr3⟩:=(HQC.out j hlt).dues
   have m5:w5.cell? ⟨g,j*6+1+4,none⟩=some (.slice (some ⟨g3,0,none⟩) is[j].chart.dues.length is[j].chart.dues.length):=by rw [←e3,←(HFA.out j).2.2];exact HRC.out.cell (by omega)
   have HM3:=hid (markL g3 is[j].chart.dues.length f3 (k+1+1+1+(is[j].chart.vars.length:Int)+(is[j].chart.marks.length:Int)) w5 (by omega) (by omega) (by omega) rr3)
   have HR3:=hid rr3
   have lc:=HRC.out.lt
   clear hv5 hg5 HM2 HR2 HQB HAB HRB lb m4 e3 rr3
   go_wp2_with fail
   refine HM3.out.mono ?_
   rintro e w6 ⟨rfl,hv6,hg6⟩
   have HRD:Hid (w6.rowIs g 114 (is.length*6) fA):=hid (HRC.out.of_block (hg6.block g HRC.out.lt (.inl (by omega))))
   have HQD:Hid (∀j (h:j<is.length),Rows3 w6 (g+1) C (f (j*6+3)) (f (j*6+4)) (f (j*6+5)) is[j].chart):=hid (fun i hi=>rows_turned HR3.out hv6 hg6 (HQC.out i hi))
   have HAD:Hid (Amid w w6 B C):=hid (HAC.out.trans (hg6.mono (by omega) (by omega)))
   clear hv6 hg6 HM3 HR3 HQC HAC HRC lc m5
   go_wp2
   exact ⟨⟨j+1,_,fA,by simp,rfl,by omega,by push_cast;omega,by omega,HRD,HFA,HQD,HAD⟩,by simp [intOf];omega⟩
  ·obtain rfl:j=is.length:=by omega
   go_wp2
   go_ret
   exact ⟨⟨_,rfl,hk1,hk2⟩,HA.out⟩
end Ei
namespace En
open Ex (hid)
open St (Amid)
set_option maxRecDepth 100000 in
set_option maxHeartbeats 4000000 in
theorem markA (B C D:Nat) (e:EngD) (vp vi:Value) (k0:Int) (w:World) (h0:1≤k0) (hk0:k0≤1000000) (hs:Small 1048576 e) (hp:Ep.Own w B C vp e.procs.length e.procs) (hi:Ei.Own w C D vi e.insts.length e.insts) (hBC:B≤C) (hCD:C≤D) (hD:D≤w.heap.size):
    Calls Tryz.prog 32 #[.agg #[vp,vi,.int .i64 e.now],.int .i64 k0] w fun z w'=>(∃r:Int,z=.returned (.int .i64 r)∧k0≤r∧r≤k0+4194304+3145731*1048576)∧Amid w w' B D:=by
 have hwt:=hs.wt
 obtain ⟨g,f,rfl,b1,b2,b3⟩:=id hp
 obtain ⟨gi,fi,rfl,d1,d2,d3⟩:=id hi
 have hli:=hs.insts.1
 obtain ⟨w0,e0⟩:∃w0,w0=w.alloc (.cells #[.slice (some ⟨g,0,none⟩) e.procs.length e.procs.length,.slice (some ⟨gi,0,none⟩) e.insts.length e.insts.length,.int .i64 e.now] 27):=⟨_,rfl⟩
 have hb0:Below w.heap.size w w0:=by rw [e0];exact (Below.refl _ w).alloc (Nat.le_refl _) _
 have hk:w0.heap[w.heap.size]?=some (.cells #[.slice (some ⟨g,0,none⟩) e.procs.length e.procs.length,.slice (some ⟨gi,0,none⟩) e.insts.length e.insts.length,.int .i64 e.now] 27):=by rw [e0];exact Ch.new_blk _ _
 have HM1:=hid (Ep.markS B C _ e.procs k0 w0 h0 (by omega) (by omega) (hp.below hb0))
 have HI:=hid (hi.below hb0)
 have HS:=hid hs
 have HB:Hid (Amid w w0 B D):=hid ⟨hb0.os,hb0.tape,hb0.output,hb0.size,fun b hb _=>hb0.block b hb⟩
 have hsz:w0.heap.size=w.heap.size+1:=by rw [e0];simp
 have HSZ:=hid hsz
 clear hp hi hb0 b1 b2 b3 d1 d2 d3 hsz
 go_enter Tryz.func32,Tryz.ntmps32
 go_wp2_with fail
 rw [←e0]
 clear e0
 refine HM1.out.mono ?_
 rintro z w1 ⟨⟨r,rfl,r1,r2⟩,ham⟩
 have HI1:=hid (HI.out.kept (w':=w1) (fun b hb _ hl=>ham.block b hl (.inr hb)))
 have hk1:=(ham.block _ (Ch.blk_lt hk) (.inr (by omega))).trans hk
 have HA1:=hid (HB.out.trans (ham.mono (Nat.le_refl _) hCD))
 have m1:=Ch.blk_cell hk1 1
 replace m1:w1.cell? ⟨w.heap.size,1,none⟩=some (.slice (some ⟨gi,0,none⟩) e.insts.length e.insts.length):=m1
 have l1:=Ch.blk_lt hk1
 have HM2:=hid (Ei.markS C D _ e.insts r w1 (by omega) (by omega) HS.out.insts HI1.out)
 clear ham hk hk1 HM1 HI HB
 go_wp2_with fail
 refine HM2.out.mono ?_
 rintro z w2 ⟨⟨x,rfl,x1,x2⟩,ham⟩
 have HA2:=hid (HA1.out.trans (ham.mono hBC (Nat.le_refl _)))
 clear ham m1 l1
 go_wp2
 go_ret
 exact ⟨⟨x,rfl,by omega,by omega⟩,HA2.out⟩
end En
end Go.Proofs.YtccklgopcjilcaaGreatDoor
/- The law's marks in a desk that it has handed in: they are written into its own rows alone. -/
namespace Go.Proofs.YtccklgopcjilcaaGreatDoor
open Go.RowKit Go.Deep
set_option linter.unusedVariables false
namespace Dk
open Ex (hid)
open St (Amid)
set_option maxRecDepth 100000 in
set_option maxHeartbeats 4000000 in
theorem markA (B D:Nat) (d:DeskD) (vp vi vc:Value) (w:World) (hs:Small 1048576 d) (ho:Own w B D vp vi vc d) (hD:D≤w.heap.size):
    Calls Tryz.prog 41 #[.agg #[vp,vi,.int .i64 d.eng.now,vc],.int .i64 1] w fun z w'=>(∃r:Int,z=.returned (.int .i64 r)∧1≤r)∧Amid w w' B D:=by
 obtain ⟨M,b1,b2,he,hc⟩:=ho.ex
 obtain ⟨M2,b3,b4,hp,hi⟩:=he.ex
 have hls:=hs.claims
 obtain ⟨g,f,ep,_,_,_⟩:=id hp
 obtain ⟨gi,fi,ei,_,_,_⟩:=id hi
 obtain ⟨gc,fc,ec,_,_,_⟩:=id hc
 subst ep ei ec
 obtain ⟨w0,e0⟩:∃w0,w0=w.alloc (.cells #[.slice (some ⟨g,0,none⟩) d.eng.procs.length d.eng.procs.length,.slice (some ⟨gi,0,none⟩) d.eng.insts.length d.eng.insts.length,.int .i64 d.eng.now,.slice (some ⟨gc,0,none⟩) d.claims.length d.claims.length] 30):=⟨_,rfl⟩
 have hb0:Below w.heap.size w w0:=by rw [e0];exact (Below.refl _ w).alloc (Nat.le_refl _) _
 have hk:w0.heap[w.heap.size]?=some (.cells #[.slice (some ⟨g,0,none⟩) d.eng.procs.length d.eng.procs.length,.slice (some ⟨gi,0,none⟩) d.eng.insts.length d.eng.insts.length,.int .i64 d.eng.now,.slice (some ⟨gc,0,none⟩) d.claims.length d.claims.length] 30):=by rw [e0];exact Ch.new_blk _ _
 have hsz:w0.heap.size=w.heap.size+1:=by rw [e0];simp
 have HM1:=hid (En.markA B M2 M d.eng _ _ 1 w0 (by omega) (by omega) hs.eng (hp.below hb0) (hi.below hb0) b3 b4 (by omega))
 have HC:=hid (hc.below hb0)
 have HB:Hid (Amid w w0 B D):=hid ⟨hb0.os,hb0.tape,hb0.output,hb0.size,fun b hb _=>hb0.block b hb⟩
 have HSZ:=hid hsz
 clear hp hi hc he ho hs hb0 hsz
 go_enter Tryz.func41,Tryz.ntmps41
 go_wp2_with fail
 rw [←e0]
 clear e0
 refine HM1.out.mono ?_
 rintro z w1 ⟨⟨r,rfl,r1,r2⟩,ham⟩
 have HC1:=hid (HC.out.kept (w':=w1) (fun b hb _ hl=>ham.block b hl (.inr hb)))
 have hk1:=(ham.block _ (Ch.blk_lt hk) (.inr (by omega))).trans hk
 have HA1:=hid (HB.out.trans (ham.mono (Nat.le_refl _) b2))
 have m3:=Ch.blk_cell hk1 3
 replace m3:w1.cell? ⟨w.heap.size,3,none⟩=some (.slice (some ⟨gc,0,none⟩) d.claims.length d.claims.length):=m3
 have l1:=Ch.blk_lt hk1
 have HM2:=hid (Cl.markOwn M D _ d.claims.length r w1 (by omega) (by omega) (by omega) HC1.out)
 clear ham hk hk1 HM1 HC HB
 go_wp2_with fail
 refine HM2.out.mono ?_
 rintro z w2 ⟨rfl,ham⟩
 have HA2:=hid (HA1.out.trans (ham.mono b1 (Nat.le_refl _)))
 clear ham m3 l1
 go_wp2
 go_ret
 exact ⟨⟨_,rfl,by omega⟩,HA2.out⟩
end Dk
end Go.Proofs.YtccklgopcjilcaaGreatDoor
