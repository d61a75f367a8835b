/- Laid together: SkA, SkB. -/
import Derived.Test.YtccklgopcjilcaaGreatDoorJCT36
import Derived.Test.YtccklgopcjilcaaGreatDoorJCT37
import Derived.Deep.RegionHeld3
import Derived.Test.YtccklgopcjilcaaGreatDoorJCT8
/- The law's marks in steps that a function has made itself, and whether they hold. -/
namespace Go.Proofs.YtccklgopcjilcaaGreatDoor
open Go.RowKit
set_option linter.unusedVariables false
namespace Sk
open Ex (hid nvals)
open Nd (NodeD)
open St (StepD)
open Nst (own)
open Mk (mt markText markText')
open Nk (Amid mkN mkN_len kept_cell)
open Go.Proofs.YtccklgopcjilcaaGreatDoor.So (SJ SJ_eq scell nsub SAt SOwn subs sub_even sub_odd nodes_own)
def kAt (k0:Nat) (ss:List StepD):Nat→Nat
 | 0=>k0
 | i+1=>kAt k0 ss i+4+4*(SJ ss i).cond.length+4*(SJ ss i).expr.length
theorem kAt_pos {k0:Nat} (h:0<k0) (ss:List StepD):∀i,0<kAt k0 ss i
 | 0=>h
 | i+1=>by rw [kAt];omega
theorem kAt_le {k0:Nat} {ss:List StepD} {n:Nat} (hm:∀j,j<n→(SJ ss j).cond.length≤64∧(SJ ss j).expr.length≤64):∀i,i≤n→kAt k0 ss i≤k0+516*i
 | 0,_=>by simp [kAt]
 | i+1,h=>by
  have:=kAt_le (k0:=k0) hm i (by omega)
  have:=hm i (by omega)
  rw [kAt];omega
def mst (k0:Nat) (ss:List StepD) (i:Nat):StepD:=⟨(kAt k0 ss i:Int),((kAt k0 ss i+1:Nat):Int),mt (kAt k0 ss i+2),((kAt k0 ss i+3:Nat):Int),mkN (kAt k0 ss i+4) (SJ ss i).cond.length,mkN (kAt k0 ss i+4+4*(SJ ss i).cond.length) (SJ ss i).expr.length⟩
def mkS (k0:Nat) (ss:List StepD):List StepD:=(List.range ss.length).map (mst k0 ss)
theorem mkS_len (k0:Nat) (ss:List StepD):(mkS k0 ss).length=ss.length:=by simp [mkS]
theorem mkS_get (k0:Nat) (ss:List StepD) (i:Nat) (h:i<(mkS k0 ss).length):(mkS k0 ss)[i]=mst k0 ss i:=by simp [mkS]
theorem mkS_J {k0:Nat} {ss:List StepD} {i:Nat} (h:i<ss.length):SJ (mkS k0 ss) i=mst k0 ss i:=by
 rw [SJ_eq (by rw [mkS_len];exact h),mkS_get]
abbrev ec (k0:Nat) (ss:List StepD) (C E:Nat→Value) (j:Nat):Nat→List Value:=fun x=>if x<j then scell (mst k0 ss x) (C x) (E x) else scell (SJ ss x) (C x) (E x)
abbrev sc (k0:Nat) (ss:List StepD) (C E:Nat→Value) (j:Nat):Nat→Nst.Sub:=fun i=>if i / 2<j then (if i % 2=0 then nsub (C (i / 2)) (mst k0 ss (i / 2)).cond else nsub (E (i / 2)) (mst k0 ss (i / 2)).expr) else subs ss C E i
abbrev SAj (w:World) (B:Nat) (v:Value) (k0:Nat) (ss:List StepD) (C E:Nat→Value) (j:Nat):Prop:=Nst.At w B 164 6 v ss.length (ec k0 ss C E j) (2*ss.length) (sc k0 ss C E j)
theorem sub_mk (va:Value) (k:Nat) (l:List NodeD):({ nsub va l with xs:=nvals (mkN k l.length) }:Nst.Sub)=nsub va (mkN k l.length):=by
 unfold nsub
 rw [mkN_len]
set_option maxRecDepth 100000 in
set_option maxHeartbeats 8000000 in
theorem markSteps1 (B C0 g cap k0:Nat) (ss:List StepD) (C E:Nat→Value) (w:World) (hn:ss.length≤64) (h0:0<k0) (hk0:k0≤1000000) (hm:∀j,j<ss.length→(SJ ss j).cond.length≤64∧(SJ ss j).expr.length≤64) (h:SAt w B (.slice (some ⟨g,0,none⟩) ss.length cap) ss C E) (hgC:g<C0) (hFC:∀j,j<ss.length→∀b,own (C j) b∨own (E j) b→b<C0):
    Calls Tryz.prog 52 #[.slice (some ⟨g,0,none⟩) ss.length cap,.int .i64 (k0:Int)] w fun e w'=>e=.returned (.int .i64 (kAt k0 ss ss.length:Int))∧SAt w' B (.slice (some ⟨g,0,none⟩) ss.length cap) (mkS k0 ss) C E∧Amid w w' B C0:=by
 have hgB:=(Nst.own_lt h.row (b:=g) rfl).1
 have H0:Hid (SAj w B (.slice (some ⟨g,0,none⟩) ss.length cap) k0 ss C E 0):=hid (h.congr (fun j hj=>by simp [ec]) (fun i hi=>by simp [sc]))
 have HM:=hid hm
 have HK:=hid (fun i (hi:i≤ss.length)=>kAt_le (k0:=k0) hm i hi)
 have HP:=hid (kAt_pos h0 ss)
 have HFC:=hid hFC
 clear h hm hFC
 go_enter Tryz.func52,Tryz.ntmps52
 go_wp2
 go_loopw [1,5] (fun q i wr=>∃(j:Nat),i=.int .i64 j∧q=.int .i64 (kAt k0 ss j:Int)∧j≤ss.length∧Hid (SAj wr B (.slice (some ⟨g,0,none⟩) ss.length cap) k0 ss C E j)∧Hid (Amid w wr B C0)) (fun _ i _=>ss.length - (intOf i).toNat)
 case atStart=>exact ⟨0,rfl,by simp [kAt],Nat.zero_le _,H0,hid (Amid.refl _ _ _)⟩
 case round=>
  obtain ⟨j,rfl,rfl,hj,HW,HA⟩:=hrel
  by_cases hlt:j<ss.length
  ·have q1:(j:Int)<(ss.length:Int):=by omega
   have hmj:=(HM.out j hlt).1
   have hmj2:=(HM.out j hlt).2
   have hkj:=HK.out j (by omega)
   have hpj:=HP.out j
   have HKS:Hid (kAt k0 ss (j+1)=kAt k0 ss j+4+4*(SJ ss j).cond.length+4*(SJ ss j).expr.length):=hid rfl
   have HME:Hid (mst k0 ss j=⟨(kAt k0 ss j:Int),((kAt k0 ss j+1:Nat):Int),mt (kAt k0 ss j+2),((kAt k0 ss j+3:Nat):Int),mkN (kAt k0 ss j+4) (SJ ss j).cond.length,mkN (kAt k0 ss j+4+4*(SJ ss j).cond.length) (SJ ss j).expr.length⟩):=hid rfl
   have hml:∀x,x<ss.length→(ec k0 ss C E j x).length=6:=fun x hx=>by unfold ec;split <;> rfl
   have HML:=hid hml
   have hej:ec k0 ss C E j j=[.int .i64 (SJ ss j).kind,.int .i64 (SJ ss j).parent,.string (SJ ss j).name,.int .i64 (SJ ss j).arg,C j,E j]:=by simp [ec,scell]
   have step:∀(wx:World) (L:List Value) (s:Nat→Nst.Sub) (i:Nat) (u:Value),Nst.At wx B 164 6 (.slice (some ⟨g,0,none⟩) ss.length cap) ss.length (fun x=>if x=j then L else ec k0 ss C E j x) (2*ss.length) s→L.length=6→i<6→Nst.At (wx.setCell ⟨g,j*6+i,none⟩ u) B 164 6 (.slice (some ⟨g,0,none⟩) ss.length cap) ss.length (fun x=>if x=j then L.set i u else ec k0 ss C E j x) (2*ss.length) s:=by
    intro wx L s i u ha hL hi
    have:=ha.setRow (fun x hx=>by
     by_cases e:x=j
     ·simp only [e,if_true];exact hL
     ·simp only [e,if_false];exact HML.out x hx) hlt hi u
    refine this.congr (fun x hx=>?_) (fun _ _=>rfl)
    by_cases e:x=j <;> simp only [e,if_true,if_false]
   have HSTEP:=hid step
   have cut:∀(wx:World) (L:List Value) (s:Nat→Nst.Sub) (u:Value) (i:Nat),Nst.At wx B 164 6 (.slice (some ⟨g,0,none⟩) ss.length cap) ss.length (fun x=>if x=j then L else ec k0 ss C E j x) (2*ss.length) s→L.length=6→i<6→L[i]?=some u→wx.cell? ⟨g,j*6+i,none⟩=some u:=by
    intro wx L s u i ha hL hi hu
    have:=ha.cell (fun x hx=>by
     by_cases e:x=j
     ·simp only [e,if_true];exact hL
     ·simp only [e,if_false];exact HML.out x hx) hlt hi
    simp only [if_true] at this
    rw [this];exact hu
   have HCUT:=hid cut
   clear step cut
   have HS0:Hid (Nst.At wr B 164 6 (.slice (some ⟨g,0,none⟩) ss.length cap) ss.length (fun x=>if x=j then [.int .i64 (SJ ss j).kind,.int .i64 (SJ ss j).parent,.string (SJ ss j).name,.int .i64 (SJ ss j).arg,C j,E j] else ec k0 ss C E j x) (2*ss.length) (sc k0 ss C E j)):=hid (HW.out.congr (fun x hx=>by
    by_cases e:x=j
    ·subst e;rw [if_pos rfl];exact hej.symm
    ·rw [if_neg e]) (fun _ _=>rfl))
   generalize hkk:kAt k0 ss j=k at *
   clear hml hkk hej
   have c0:=HCUT.out _ _ _ _ 0 HS0.out rfl (by omega) rfl
   have c1:=HCUT.out _ _ _ _ 1 HS0.out rfl (by omega) rfl
   have z0:=HS0.out.free (j*6)
   have z1:=HS0.out.free (j*6+1)
   have hgl:=(Nst.own_lt HS0.out.row (b:=g) rfl).2
   replace c0:wr.cell? ⟨g,j*6,none⟩=some (.int .i64 (SJ ss j).kind):=c0
   have HS2:=hid (HSTEP.out _ _ _ 1 (.int .i64 ((k:Int)+1)) (HSTEP.out _ _ _ 0 (.int .i64 (k:Int)) HS0.out rfl (by omega)) rfl (by omega))
   have HA2:Hid (Amid w ((wr.setCell ⟨g,j*6,none⟩ (.int .i64 (k:Int))).setCell ⟨g,j*6+1,none⟩ (.int .i64 ((k:Int)+1))) B C0):=hid ((HA.out.trans (Amid.set wr (j*6) (.int .i64 (k:Int)) hgB hgC)).trans (Amid.set _ (j*6+1) (.int .i64 ((k:Int)+1)) hgB hgC))
   replace HS2:Hid (Nst.At ((wr.setCell ⟨g,j*6,none⟩ (.int .i64 (k:Int))).setCell ⟨g,j*6+1,none⟩ (.int .i64 ((k:Int)+1))) B 164 6 (.slice (some ⟨g,0,none⟩) ss.length cap) ss.length (fun x=>if x=j then [.int .i64 (k:Int),.int .i64 ((k:Int)+1),.string (SJ ss j).name,.int .i64 (SJ ss j).arg,C j,E j] else ec k0 ss C E j x) (2*ss.length) (sc k0 ss C E j)):=HS2
   go_wp2_with fail
   generalize (wr.setCell ⟨g,j*6,none⟩ (.int .i64 (k:Int))).setCell ⟨g,j*6+1,none⟩ (.int .i64 ((k:Int)+1))=w2 at *
   refine (markText' _ _ (by omega) (by omega)).mono ?_
   rintro e w3 ⟨rfl,hb3⟩
   have ek:((k:Int)+1+1).toNat=k+2:=by omega
   rw [ek]
   have hs3:=HS2.out.below hb3
   have c2:=HCUT.out _ _ _ _ 2 hs3 rfl (by omega) rfl
   have c3:=HCUT.out _ _ _ _ 3 hs3 rfl (by omega) rfl
   have c4:=HCUT.out _ _ _ _ 4 (HSTEP.out _ _ _ 3 (.int .i64 ((k:Int)+1+1+1)) (HSTEP.out _ _ _ 2 (.string (mt (k+2))) hs3 rfl (by omega)) rfl (by omega)) rfl (by omega) rfl
   have y2:=hs3.free (j*6+2)
   have y3:=hs3.free (j*6+3)
   have hgl3:=(Nst.own_lt hs3.row (b:=g) rfl).2
   have HS4:Hid (Nst.At ((w3.setCell ⟨g,j*6+2,none⟩ (.string (mt (k+2)))).setCell ⟨g,j*6+3,none⟩ (.int .i64 ((k:Int)+1+1+1))) B 164 6 (.slice (some ⟨g,0,none⟩) ss.length cap) ss.length (fun x=>if x=j then [.int .i64 (k:Int),.int .i64 ((k:Int)+1),.string (mt (k+2)),.int .i64 ((k:Int)+1+1+1),C j,E j] else ec k0 ss C E j x) (2*ss.length) (sc k0 ss C E j)):=hid (HSTEP.out _ _ _ 3 (.int .i64 ((k:Int)+1+1+1)) (HSTEP.out _ _ _ 2 (.string (mt (k+2))) hs3 rfl (by omega)) rfl (by omega))
   have HA4:Hid (Amid w ((w3.setCell ⟨g,j*6+2,none⟩ (.string (mt (k+2)))).setCell ⟨g,j*6+3,none⟩ (.int .i64 ((k:Int)+1+1+1))) B C0):=hid (((HA2.out.trans (Amid.of_below hb3)).trans (Amid.set w3 (j*6+2) (.string (mt (k+2))) hgB hgC)).trans (Amid.set _ (j*6+3) (.int .i64 ((k:Int)+1+1+1)) hgB hgC))
   have hsc:sc k0 ss C E j (2*j)=nsub (C j) (SJ ss j).cond:=by
    have e1:¬2*j / 2<j:=by omega
    simp only [sc,e1,if_false];exact sub_even ss C E j
   have hse:sc k0 ss C E j (2*j+1)=nsub (E j) (SJ ss j).expr:=by
    have e1:¬(2*j+1) / 2<j:=by omega
    simp only [sc,e1,if_false];exact sub_odd ss C E j
   have HSC:=hid hsc
   have HSE:=hid hse
   obtain ⟨ac,cc,hCj⟩:∃a c,C j=.slice a (SJ ss j).cond.length c:=by
    have:=HS4.out.sub (2*j) (by omega)
    rw [hsc] at this
    exact Nst.own_slice this
   obtain ⟨ae,ce,hEj⟩:∃a c,E j=.slice a (SJ ss j).expr.length c:=by
    have:=HS4.out.sub (2*j+1) (by omega)
    rw [hse] at this
    exact Nst.own_slice this
   have HCJ:=hid hCj
   have HEJ:=hid hEj
   have c4':((w3.setCell ⟨g,j*6+2,none⟩ (.string (mt (k+2)))).setCell ⟨g,j*6+3,none⟩ (.int .i64 ((k:Int)+1+1+1))).cell? ⟨g,j*6+4,none⟩=some (.slice ac (SJ ss j).cond.length cc):=by rw [←hCj];exact c4
   have c4'':w3.cell? ⟨g,j*6+4,none⟩=some (.slice ac (SJ ss j).cond.length cc):=by rw [←hCj];exact HCUT.out _ _ _ _ 4 hs3 rfl (by omega) rfl
   clear hs3 hsc hse hCj hEj hb3 c4
   go_wp2_with fail
   generalize (w3.setCell ⟨g,j*6+2,none⟩ (.string (mt (k+2)))).setCell ⟨g,j*6+3,none⟩ (.int .i64 ((k:Int)+1+1+1))=w4 at *
   have hsub:w4.ownsRow B 210 4 (.slice ac (SJ ss j).cond.length cc) (SJ ss j).cond.length (nvals (SJ ss j).cond):=by
    have:=HS4.out.sub (2*j) (by omega)
    rw [HSC.out,HCJ.out] at this
    exact this
   have HCA:=hid (Nk.markNodesO B (k+4) (SJ ss j).cond _ w4 (by omega) (by omega) hsub)
   rw [show ((k+4:Nat):Int)=(k:Int)+1+1+1+1 by omega] at HCA
   clear hsub
   refine HCA.out.mono ?_
   rintro e w5 ⟨rfl,hx5,hg5⟩
   have hq5:=HS4.out.setSub (q:=2*j) (by omega) (xs:=nvals (mkN (k+4) (SJ ss j).cond.length)) (by rw [HSC.out,HCJ.out];exact hx5) (by rw [HSC.out,HCJ.out];exact hg5)
   have HS5:=hid hq5
   have hB5:∀b,own (C j) b→B≤b:=fun b hb=>by
    have:=HS4.out.sub (2*j) (by omega)
    rw [HSC.out] at this
    exact (Nst.own_lt this hb).1
   have HA5:Hid (Amid w w5 B C0):=hid (HA4.out.trans (Nk.amid_grown hg5 (fun b hb=>by
    rw [←HCJ.out] at hb
    exact ⟨hB5 b hb,HFC.out j hlt b (.inl hb)⟩)))
   have c5:w5.cell? ⟨g,j*6+5,none⟩=some (.slice ae (SJ ss j).expr.length ce):=by rw [←HEJ.out];exact HCUT.out _ _ _ _ 5 HS5.out rfl (by omega) rfl
   have hgl5:=(Nst.own_lt HS5.out.row (b:=g) rfl).2
   clear hx5 hg5 hq5 HCA hB5
   go_wp2_with fail
   have hne:¬2*j+1=2*j:=by omega
   have hsub:w5.ownsRow B 210 4 (.slice ae (SJ ss j).expr.length ce) (SJ ss j).expr.length (nvals (SJ ss j).expr):=by
    have:=HS5.out.sub (2*j+1) (by omega)
    simp only [hne,if_false] at this
    rw [HSE.out,HEJ.out] at this
    exact this
   have HCE:=hid (Nk.markNodesO B (k+4+4*(SJ ss j).cond.length) (SJ ss j).expr _ w5 (by omega) (by omega) hsub)
   clear hsub
   refine HCE.out.mono ?_
   rintro e w6 ⟨rfl,hx6,hg6⟩
   have hq6:=HS5.out.setSub (q:=2*j+1) (by omega) (xs:=nvals (mkN (k+4+4*(SJ ss j).cond.length) (SJ ss j).expr.length)) (by simp only [hne,if_false];rw [HSE.out,HEJ.out];exact hx6) (by simp only [hne,if_false];rw [HSE.out,HEJ.out];exact hg6)
   have HS6:Hid (SAj w6 B (.slice (some ⟨g,0,none⟩) ss.length cap) k0 ss C E (j+1)):=hid (hq6.congr (fun x hx=>by
    by_cases e:x=j
    ·subst e
     simp only [ec,Nat.lt_succ_self,if_true,HME.out,scell]
     push_cast
     simp only [Int.add_assoc]
    ·have e2:(x<j+1)=(x<j):=by simp only [eq_iff_iff];omega
     simp only [ec,e,if_false,e2]) (fun i hi=>by
    by_cases e1:i=2*j+1
    ·subst e1
     have a1:(2*j+1) / 2=j:=by omega
     have a2:¬(2*j+1) % 2=0:=by omega
     simp only [sc,a1,a2,Nat.lt_succ_self,if_true,if_false,HME.out,hne,Nat.lt_irrefl]
     rw [show subs ss C E (2*j+1)=nsub (E j) (SJ ss j).expr from sub_odd ss C E j]
     exact (sub_mk (E j) (k+4+4*(SJ ss j).cond.length) (SJ ss j).expr).symm
    ·by_cases e2:i=2*j
     ·subst e2
      have a1:2*j / 2=j:=by omega
      have a2:2*j % 2=0:=by omega
      have a3:¬2*j=2*j+1:=by omega
      simp only [sc,a1,a2,Nat.lt_succ_self,if_true,if_false,HME.out,a3,Nat.lt_irrefl]
      rw [show subs ss C E (2*j)=nsub (C j) (SJ ss j).cond from sub_even ss C E j]
      exact (sub_mk (C j) (k+4) (SJ ss j).cond).symm
     ·have a1:(i / 2<j+1)=(i / 2<j):=by simp only [eq_iff_iff];omega
      simp only [sc,e1,e2,if_false,a1]))
   have hB6:∀b,own (E j) b→B≤b:=fun b hb=>by
    have:=HS5.out.sub (2*j+1) (by omega)
    simp only [hne,if_false] at this
    rw [HSE.out] at this
    exact (Nst.own_lt this hb).1
   have HA6:Hid (Amid w w6 B C0):=hid (HA5.out.trans (Nk.amid_grown hg6 (fun b hb=>by
    rw [←HEJ.out] at hb
    exact ⟨hB6 b hb,HFC.out j hlt b (.inr hb)⟩)))
   clear hx6 hg6 hq6 HCE hB6
   go_wp2
   exact ⟨⟨j+1,by simp,by rw [HKS.out];simp,by omega,HS6,HA6⟩,by simp [intOf];omega⟩
  ·obtain rfl:j=ss.length:=by omega
   have HE:Hid (SAt wr B (.slice (some ⟨g,0,none⟩) ss.length cap) (mkS k0 ss) C E):=hid (by
    unfold SAt
    rw [mkS_len]
    exact HW.out.congr (fun x hx=>by simp only [ec,hx,if_true,mkS_J hx]) (fun i hi=>by
     have hx:i / 2<ss.length:=by omega
     simp only [sc,subs,hx,if_true,mkS_J hx]))
   go_wp2
   go_ret
   exact ⟨rfl,HE.out,HA.out⟩
end Sk
end Go.Proofs.YtccklgopcjilcaaGreatDoor
/- Whether the law's marks hold, in steps that a function has made itself; marks, holds and comparison of a ProcResult. -/
namespace Go.Proofs.YtccklgopcjilcaaGreatDoor
open Go.RowKit
set_option linter.unusedVariables false
namespace Sk
open Ex (hid nvals)
open Nd (NodeD)
open St (StepD)
open Nst (own)
open Mk (mt markText markText')
open Nk (Amid mkN mkN_len kept_cell heldNodes)
open Go.Proofs.YtccklgopcjilcaaGreatDoor.So (SJ SJ_eq scell nsub SAt SOwn subs sub_even sub_odd nodes_own)
theorem mt_ne (k:Nat):((mt k).toList != (mt k).toList)=false:=by simp
set_option maxRecDepth 100000 in
set_option maxHeartbeats 8000000 in
theorem heldSteps (B k0:Nat) (ss:List StepD) (v:Value) (w:World) (hn:ss.length≤64) (h0:0<k0) (hk0:k0≤1000000) (hm:∀j,j<ss.length→(SJ ss j).cond.length≤64∧(SJ ss j).expr.length≤64) (ha:St.At w B v (mkS k0 ss)):
    Calls Tryz.prog 169 #[v,.int .i64 (k0:Int)] w fun e w'=>e=.returned (.int .i64 (kAt k0 ss ss.length:Int))∧Below w.heap.size w w':=by
 obtain ⟨a,cap,rfl⟩:=ha.slice
 have HA:=hid ha
 have HM:=hid hm
 have HK:=hid (fun i (hi:i≤ss.length)=>kAt_le (k0:=k0) hm i hi)
 have HP:=hid (kAt_pos h0 ss)
 have hml:=mkS_len k0 ss
 have HML:=hid hml
 clear ha hm hml
 go_enter Tryz.func169,Tryz.ntmps169
 go_wp2
 go_loopw [1,5] (fun q i wr=>∃(j:Nat),i=.int .i64 j∧q=.int .i64 (kAt k0 ss j:Int)∧j≤ss.length∧Hid (Below w.heap.size w wr)) (fun _ i _=>ss.length - (intOf i).toNat)
 case atStart=>exact ⟨0,rfl,by simp [kAt],Nat.zero_le _,hid (Below.refl _ _)⟩
 case round=>
  obtain ⟨j,rfl,rfl,hj,HB⟩:=hrel
  by_cases hlt:j<ss.length
  ·have q1:(j:Int)<((mkS k0 ss).length:Int):=by have:=HML.out;omega
   have hlt2:j<(mkS k0 ss).length:=by have:=HML.out;omega
   obtain ⟨g,o,vc,ve,rfl,hg,c0,c1,c2,c3,c4,c5,hvc,hve⟩:=(HA.out.below HB.out).at (i:=j) hlt2
   rw [mkS_get] at c0 c1 c2 c3 hvc hve
   have hkj:=HK.out j (by omega)
   have hpj:=HP.out j
   have hmj:=(HM.out j hlt).1
   have hmj2:=(HM.out j hlt).2
   have HKS:Hid (kAt k0 ss (j+1)=kAt k0 ss j+4+4*(SJ ss j).cond.length+4*(SJ ss j).expr.length):=hid rfl
   replace c0:wr.cell? ⟨g,o+j*6,none⟩=some (.int .i64 (kAt k0 ss j:Int)):=c0
   replace c1:wr.cell? ⟨g,o+j*6+1,none⟩=some (.int .i64 ((kAt k0 ss j+1:Nat):Int)):=c1
   replace c2:wr.cell? ⟨g,o+j*6+2,none⟩=some (.string (mt (kAt k0 ss j+2))):=c2
   replace c3:wr.cell? ⟨g,o+j*6+3,none⟩=some (.int .i64 ((kAt k0 ss j+3:Nat):Int)):=c3
   replace hvc:Nd.At wr B vc (mkN (kAt k0 ss j+4) (SJ ss j).cond.length):=hvc
   replace hve:Nd.At wr B ve (mkN (kAt k0 ss j+4+4*(SJ ss j).cond.length) (SJ ss j).expr.length):=hve
   obtain ⟨a2,cap2,rfl⟩:=hvc.slice
   obtain ⟨a3,cap3,rfl⟩:=hve.slice
   have HVC:=hid hvc
   have HVE:=hid hve
   generalize hkk:kAt k0 ss j=k at *
   clear hkk hvc hve
   have HM1:=hid (fun wx=>markText' ((k:Int)+1+1) wx (by omega) (by omega))
   rw [show ((k:Int)+1+1).toNat=k+2 by omega] at HM1
   have hn1:=mt_ne (k+2)
   have b0:((k:Int) != (k:Int))=false:=by simp
   have b1:(((k+1:Nat):Int) != (k:Int)+1)=false:=by simp
   have b2:((k:Int)+1 != (k:Int)+1)=false:=by simp
   go_wp2_with fail
   have t0:wr.drew.cell? ⟨g,o+j*6+2,none⟩=some (.string (mt (k+2))):=c2
   have t3d:wr.drew.cell? ⟨g,o+j*6+3,none⟩=some (.int .i64 ((k+3:Nat):Int)):=c3
   have t4d:wr.drew.cell? ⟨g,o+j*6+4,none⟩=some (.slice a2 (mkN (k+4) (SJ ss j).cond.length).length cap2):=c4
   have t5d:wr.drew.cell? ⟨g,o+j*6+5,none⟩=some (.slice a3 (mkN (k+4+4*(SJ ss j).cond.length) (SJ ss j).expr.length).length cap3):=c5
   have hgd:g<wr.drew.heap.size:=hg
   have HBd:Hid (Below w.heap.size w wr.drew):=hid HB.out.drew
   have hDr:Below wr.heap.size wr wr.drew:=(Below.refl _ wr).drew
   have hWd:w.heap.size≤wr.drew.heap.size:=HB.out.size
   refine wp_region_held_drew (S:=fun wx=>wx.cell? ⟨g,o+j*6+2,none⟩=some (.string (mt (k+2)))∧Below w.heap.size w wx) (by kernel_rfl) ⟨t0,HBd.out⟩ (fun hHeld=>?_)
   refine wpAnyH_take (i:=0) (oi:={ dst:=some 30,op:=Go.Op.move (Go.Operand.tmp 0),type:=87,pos := "exact.go:707",after:=#[],guard:=none }) (v:=.slice (some ⟨g,o,none⟩) (mkS k0 ss).length cap) rfl (by kernel_rfl) (by kernel_rfl) (by kernel_rfl) (fun _ _ _ h=>h) (Or.inl ⟨by rfl,by intro w hSw;(try dsimp only at hSw);go_simp⟩) (by assumption) ?_
   simp only [Act.put,List.setIfInBounds_toArray,List.set_cons_zero,List.set_cons_succ]
   refine wpAnyH_take (i:=1) (oi:={ dst:=some 31,op:=Go.Op.move (Go.Operand.tmp 5),type:=3,pos := "exact.go:707",after:=#[],guard:=none }) (v:=.int .i64 (j:Int)) rfl (by kernel_rfl) (by kernel_rfl) (by kernel_rfl) (fun _ _ _ h=>h) (Or.inl ⟨by rfl,by intro w hSw;(try dsimp only at hSw);go_simp⟩) (by assumption) ?_
   simp only [Act.put,List.setIfInBounds_toArray,List.set_cons_zero,List.set_cons_succ]
   refine wpAnyH_take (i:=2) (oi:={ dst:=some 32,op:=Go.Op.indexAddr 87 (Go.Operand.tmp 30) (Go.Operand.tmp 31),type:=0,pos := "exact.go:707",after:=#[{ on:=0,ground:=Go.Ground.data },{ on:=1,ground:=Go.Ground.data }],guard:=none }) (v:=.pointer (some ⟨g,o+j*6,none⟩)) rfl (by kernel_rfl) (by kernel_rfl) (by kernel_rfl) (fun _ _ _ h=>h) (Or.inl ⟨by rfl,by intro w hSw;(try dsimp only at hSw);go_simp⟩) (by assumption) ?_
   simp only [Act.put,List.setIfInBounds_toArray,List.set_cons_zero,List.set_cons_succ]
   refine wpAnyH_take (i:=3) (oi:={ dst:=some 33,op:=Go.Op.fieldAddr 164 (Go.Operand.tmp 32) 2,type:=0,pos := "exact.go:707",after:=#[{ on:=2,ground:=Go.Ground.data }],guard:=none }) (v:=.pointer (some ⟨g,o+j*6+2,none⟩)) rfl (by kernel_rfl) (by kernel_rfl) (by kernel_rfl) (fun _ _ _ h=>h) (Or.inl ⟨by rfl,by intro w hSw;(try dsimp only at hSw);go_simp⟩) (by assumption) ?_
   simp only [Act.put,List.setIfInBounds_toArray,List.set_cons_zero,List.set_cons_succ]
   refine wpAnyH_take (i:=4) (oi:={ dst:=some 34,op:=Go.Op.load 9 (Go.Operand.tmp 33),type:=9,pos := "exact.go:707",after:=#[{ on:=3,ground:=Go.Ground.data }],guard:=none }) (v:=.string (mt (k+2))) rfl (by kernel_rfl) (by kernel_rfl) (by kernel_rfl) (fun _ _ _ h=>h) (Or.inl ⟨by rfl,by intro w hSw;(try dsimp only at hSw);go_simp⟩) (by assumption) ?_
   simp only [Act.put,List.setIfInBounds_toArray,List.set_cons_zero,List.set_cons_succ]
   refine wpAnyH_take (i:=5) (oi:={ dst:=some 35,op:=Go.Op.move (Go.Operand.tmp 1),type:=3,pos := "exact.go:707",after:=#[],guard:=none }) (v:=.int .i64 ((k:Int)+1+1)) rfl (by kernel_rfl) (by kernel_rfl) (by kernel_rfl) (fun _ _ _ h=>h) (Or.inl ⟨by rfl,by intro w hSw;(try dsimp only at hSw);go_simp⟩) (by assumption) ?_
   simp only [Act.put,List.setIfInBounds_toArray,List.set_cons_zero,List.set_cons_succ]
   refine wpAnyH_ready (rs:=[6]) (by kernel_rfl) (by simp) ?_
   refine AllReadyH.cons (o:={ dst:=some 36,op:=Go.Op.call { callee:=Go.Callee.value (Go.Operand.func 101),args:=#[Go.Operand.tmp 35],argTypes:=#[3] },type:=9,pos := "exact.go:707",after:=#[{ on:=5,ground:=Go.Ground.data }],guard:=none }) rfl (fun K hK=>?_) AllReadyH.nil
   go_simp
   go_at_call 101
   refine (HM1.out _).mono ?_
   rintro e w1 ⟨rfl,hb1⟩
   have g0:=kept_cell hb1 hgd t0
   have HB1:=hid (HBd.out.trans (hb1.mono hWd))
   have hbr:Below wr.heap.size wr w1:=hDr.trans hb1
   have l1:wr.heap.size≤w1.heap.size:=hb1.size
   have t3:=kept_cell hb1 hgd t3d
   have t4:=kept_cell hb1 hgd t4d
   have t5:=kept_cell hb1 hgd t5d
   clear hb1
   go_wp2_with fail
   refine hK.out _ _ ⟨g0,HB1.out⟩ (fun hHeld=>?_)
   clear hK K
   try simp only [Act.put,List.setIfInBounds_toArray,List.set_cons_zero,List.set_cons_succ]
   refine wpAnyH_take (i:=7) (oi:={ dst:=some 37,op:=Go.Op.binOp Go.BinOp.neq 9 (Go.Operand.tmp 34) (Go.Operand.tmp 36) 9,type:=4,pos := "exact.go:707",after:=#[{ on:=4,ground:=Go.Ground.data },{ on:=6,ground:=Go.Ground.data }],guard:=none }) (v:=.bool false) rfl (by kernel_rfl) (by kernel_rfl) (by kernel_rfl) (fun _ _ _ h=>h) (Or.inl ⟨by rfl,by intro w hSw;(try dsimp only at hSw);go_simp⟩) (by assumption) ?_
   simp only [Act.put,List.setIfInBounds_toArray,List.set_cons_zero,List.set_cons_succ]
   refine wpAnyH_done (by kernel_rfl) ?_ _
   have HHC:=hid (heldNodes B (SJ ss j).cond.length (k+4) _ w1 (by omega) (by omega) (HVC.out.below hbr))
   rw [show ((k+4:Nat):Int)=(k:Int)+1+1+1+1 by omega] at HHC
   have b3:(((k+3:Nat):Int) != (k:Int)+1+1+1)=false:=by simp;omega
   have b4:((k:Int)+3 != (k:Int)+1+1+1)=false:=by simp;omega
   have hg1:g<w1.heap.size:=Nat.lt_of_lt_of_le hg l1
   go_wp2_with fail
   refine HHC.out.mono ?_
   rintro e w2 ⟨rfl,hb2⟩
   have HB2:=hid (HB1.out.trans (hb2.mono HB1.out.size))
   have HHE:=hid (heldNodes B (SJ ss j).expr.length (k+4+4*(SJ ss j).cond.length) _ w2 (by omega) (by omega) ((HVE.out.below hbr).below hb2))
   have t52:=kept_cell hb2 hg1 t5
   have b5:¬((k+4+4*(SJ ss j).cond.length:Nat):Int)<0:=by omega
   clear hb2 HHC
   go_wp2_with fail
   refine HHE.out.mono ?_
   rintro e w3 ⟨rfl,hb3⟩
   have HB3:=hid (HB2.out.trans (hb3.mono HB2.out.size))
   have b6:¬((k+4+4*(SJ ss j).cond.length+4*(SJ ss j).expr.length:Nat):Int)<0:=by omega
   clear hb3 HHE
   go_wp2
   exact ⟨⟨j+1,by simp,by rw [HKS.out];simp,by omega,HB3⟩,by simp [intOf];omega⟩
  ·obtain rfl:j=ss.length:=by omega
   have q1:¬(ss.length:Int)<((mkS k0 ss).length:Int):=by have:=HML.out;omega
   go_wp2
   go_ret
   exact ⟨rfl,HB.out⟩
def SIn (w:World) (B C0:Nat) (v:Value) (ss:List StepD):Prop:=∃C E,SAt w B v ss C E∧(∀b,own v b→b<C0)∧∀j,j<ss.length→∀b,own (C j) b∨own (E j) b→b<C0
theorem into {w:World} {B:Nat} {v:Value} {ss:List StepD} (h:SOwn w B v ss):SIn w B w.heap.size v ss:=by
 obtain ⟨C,E,h⟩:=h
 refine ⟨C,E,h,fun b hb=>(Nst.own_lt h.row hb).2,fun j hj b hb=>?_⟩
 rcases hb with hb | hb
 ·exact (Nst.own_lt (SAt.cond h hj) hb).2
 ·exact (Nst.own_lt (SAt.expr h hj) hb).2
theorem SIn.own {w:World} {B C0:Nat} {v:Value} {ss:List StepD} (h:SIn w B C0 v ss):SOwn w B v ss:=by
 obtain ⟨C,E,h,_⟩:=h;exact ⟨C,E,h⟩
theorem SIn.keep {w w':World} {B C0:Nat} {v:Value} {ss:List StepD} (h:SIn w B C0 v ss) (hb:∀b,B≤b→b<C0→w'.heap[b]?=w.heap[b]?):SIn w' B C0 v ss:=by
 obtain ⟨C,E,h,h1,h2⟩:=h
 refine ⟨C,E,h.kept (fun b hv=>hb b (Nst.own_lt h.row hv).1 (h1 b hv)) (fun i hi b hv=>?_),h1,h2⟩
 have hs:=h.sub i hi
 have hB:=(Nst.own_lt hs hv).1
 by_cases e:i % 2=0
 ·have hv2:Nst.own (C (i / 2)) b:=by simpa only [subs,e,if_true,nsub] using hv
  exact hb b hB (h2 (i / 2) (by omega) b (.inl hv2))
 ·have hv2:Nst.own (E (i / 2)) b:=by simpa only [subs,e,if_false,nsub] using hv
  exact hb b hB (h2 (i / 2) (by omega) b (.inr hv2))
theorem SIn.below {w w':World} {B C0:Nat} {v:Value} {ss:List StepD} (h:SIn w B C0 v ss) (hC:C0≤w.heap.size) (hb:Below w.heap.size w w'):SIn w' B C0 v ss:=h.keep (fun b _ hl=>hb.block b (by omega))
theorem markStepsP (B C0 k0:Nat) (ss:List StepD) (v:Value) (C E:Nat→Value) (w:World) (hn:ss.length≤64) (h0:0<k0) (hk0:k0≤1000000) (hm:∀j,j<ss.length→(SJ ss j).cond.length≤64∧(SJ ss j).expr.length≤64) (h:SAt w B v ss C E) (h1:∀b,own v b→b<C0) (h2:∀j,j<ss.length→∀b,own (C j) b∨own (E j) b→b<C0):
    Calls Tryz.prog 52 #[v,.int .i64 (k0:Int)] w fun e w'=>e=.returned (.int .i64 (kAt k0 ss ss.length:Int))∧SAt w' B v (mkS k0 ss) C E∧Amid w w' B C0:=by
 rcases Nat.eq_zero_or_pos ss.length with e | e
 ·have e2:ss=[]:=List.eq_nil_of_length_eq_zero e
  subst e2
  obtain ⟨a,cap,rfl⟩:=Nst.own_slice h.row
  have H:=hid h
  clear h h1 h2
  go_enter Tryz.func52,Tryz.ntmps52
  go_wp2
  refine wp_loop_rounds 2 ?_
  rw [rounds_succ]
  go_wp2
  go_ret
  exact ⟨by simp [kAt],H.out,Amid.refl _ _ _⟩
 ·obtain ⟨g,cap,rfl,_⟩:=Nst.own_some h.row e
  exact markSteps1 B C0 g cap k0 ss C E w hn h0 hk0 hm h (h1 g rfl) h2
end Sk
end Go.Proofs.YtccklgopcjilcaaGreatDoor
