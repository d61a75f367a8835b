/- Laid together: EoM, EoN, EoP, EoQ. -/
import Derived.Test.YtccklgopcjilcaaGreatDoorJCT37
import Derived.Test.YtccklgopcjilcaaGreatDoorJCT38
/- The law's marks in the processes of an engine that a function has made itself, and whether they hold. -/
namespace Go.Proofs.YtccklgopcjilcaaGreatDoor
open Go.RowKit Go.Deep
set_option linter.unusedVariables false
namespace Eo
open Ex (hid)
open Nst (own flat own_lt own_kept)
open Go.Proofs.YtccklgopcjilcaaGreatDoor.So (SAt SJ)
open St (StepD)
open Sk (kAt kAt_le kAt_pos mkS mkS_len)
open Nk (Amid)
structure Chg (S:Nat→Prop) (w w':World):Prop where
 os:w'.os=w.os
 tape:w'.tape=w.tape
 output:w'.output=w.output
 size:w.heap.size≤w'.heap.size
 block:∀b,b<w.heap.size→¬S b→w'.heap[b]?=w.heap[b]?
theorem Chg.refl (S:Nat→Prop) (w:World):Chg S w w:=⟨rfl,rfl,rfl,Nat.le_refl _,fun _ _ _=>rfl⟩
theorem Chg.trans {S:Nat→Prop} {w w1 w2:World} (h:Chg S w w1) (k:Chg S w1 w2):Chg S w w2:=
 ⟨k.os.trans h.os,k.tape.trans h.tape,k.output.trans h.output,Nat.le_trans h.size k.size,fun b hb hs=>(k.block b (Nat.lt_of_lt_of_le hb h.size) hs).trans (h.block b hb hs)⟩
theorem Chg.mono {S T:Nat→Prop} {w w':World} (h:Chg S w w') (hs:∀b,S b→T b):Chg T w w':=⟨h.os,h.tape,h.output,h.size,fun b hb ht=>h.block b hb (fun e=>ht (hs b e))⟩
theorem Chg.of_below {S:Nat→Prop} {w w':World} (h:Below w.heap.size w w'):Chg S w w':=⟨h.os,h.tape,h.output,h.size,fun b hb _=>h.block b hb⟩
theorem Chg.below {S:Nat→Prop} {W w w':World} (hb:Below W.heap.size W w) (h:Chg S w w') (hs:∀b,S b→W.heap.size≤b):Below W.heap.size W w':=
 ⟨h.os.trans hb.os,h.tape.trans hb.tape,h.output.trans hb.output,Nat.le_trans hb.size h.size,fun b hl=>(h.block b (Nat.lt_of_lt_of_le hl hb.size) (fun e=>by have:=hs b e;omega)).trans (hb.block b hl)⟩
theorem chg_amid {S:Nat→Prop} {w w':World} {lo hi:Nat} (h:Amid w w' lo hi) (hs:∀b,lo≤b→b<hi→S b):Chg S w w':=
 ⟨h.os,h.tape,h.output,h.size,fun b hb hn=>h.block b hb (by
  rcases Nat.lt_or_ge b lo with h1 | h1
  ·exact .inl h1
  ·rcases Nat.lt_or_ge b hi with h2 | h2
   ·exact absurd (hs b h1 h2) hn
   ·exact .inr h2)⟩
def Few (ss:List StepD):Prop:=ss.length≤64∧∀j,j<ss.length→(SJ ss j).cond.length≤64∧(SJ ss j).expr.length≤64
structure FewP (ps:List (List StepD)):Prop where
 len:ps.length≤3
 each:∀j,j<ps.length→Few (PJs ps j)
def kP (k0:Nat) (ps:List (List StepD)):Nat→Nat
 | 0=>k0
 | i+1=>kAt (kP k0 ps i) (PJs ps i) (PJs ps i).length
theorem kP_pos {k0:Nat} (h:0<k0) (ps:List (List StepD)):∀i,0<kP k0 ps i
 | 0=>h
 | i+1=>kAt_pos (kP_pos h ps i) _ _
theorem kP_le {k0:Nat} {ps:List (List StepD)} (hf:FewP ps):∀i,i≤ps.length→kP k0 ps i≤k0+33024*i
 | 0,_=>by simp [kP]
 | i+1,h=>by
  have h1:=kP_le (k0:=k0) hf i (by omega)
  have h2:=hf.each i (by omega)
  have h3:=kAt_le (k0:=kP k0 ps i) (n:=(PJs ps i).length) h2.2 (PJs ps i).length (Nat.le_refl _)
  have:=h2.1
  rw [kP];omega
def mkP (k0:Nat) (ps:List (List StepD)):List (List StepD):=(List.range ps.length).map (fun i=>mkS (kP k0 ps i) (PJs ps i))
theorem mkP_len (k0:Nat) (ps:List (List StepD)):(mkP k0 ps).length=ps.length:=by simp [mkP]
theorem mkP_J {k0:Nat} {ps:List (List StepD)} {i:Nat} (h:i<ps.length):PJs (mkP k0 ps) i=mkS (kP k0 ps i) (PJs ps i):=by
 rw [PJs_eq (by rw [mkP_len];exact h)];simp [mkP]
abbrev InI (n:Nat) (lo hi:Nat→Nat) (b:Nat):Prop:=∃i,i<n∧lo i≤b∧b<hi i
set_option maxRecDepth 100000 in
set_option maxHeartbeats 8000000 in
theorem markP (B k0:Nat) (ps:List (List StepD)) (v:Value) (pv:Nat→Value) (C E:Nat→Nat→Value) (lo hi:Nat→Nat) (w:World) (hf:FewP ps) (h0:0<k0) (hk0:k0≤800000) (h:PRow w B v ps pv C E lo hi):
    Calls Tryz.prog 15 #[v,.int .i64 (k0:Int)] w fun e w'=>e=.returned (.int .i64 (kP k0 ps ps.length:Int))∧PRow w' B v (mkP k0 ps) pv C E lo hi∧Chg (InI ps.length lo hi) w w':=by
 obtain ⟨a,cap,rfl⟩:=Nst.own_slice h.row
 have HF:=hid hf
 have H:=hid h
 have hl3:=hf.len
 have HK:=hid (fun i (hi:i≤ps.length)=>kP_le (k0:=k0) hf i hi)
 have HP:=hid (kP_pos h0 ps)
 clear h hf
 go_enter Tryz.func15,Tryz.ntmps15
 go_wp2
 go_loopw [1,5] (fun q i wr=>∃(j:Nat),i=.int .i64 j∧q=.int .i64 (kP k0 ps j:Int)∧j≤ps.length∧Hid (∀i,i<ps.length→PIn wr (lo i) (hi i) (pv i) (if i<j then mkS (kP k0 ps i) (PJs ps i) else PJs ps i) (C i) (E i))∧Hid (Chg (InI ps.length lo hi) w wr)) (fun _ i _=>ps.length - (intOf i).toNat)
 case atStart=>exact ⟨0,rfl,rfl,Nat.zero_le _,hid (fun i hi=>by rw [if_neg (by omega)];exact H.out.pin i hi),hid (Chg.refl _ _)⟩
 case round=>
  obtain ⟨j,rfl,rfl,hj,HI,HC⟩:=hrel
  have HRW:Hid (wr.ownsRow B 89 1 (.slice a ps.length cap) ps.length (flat (fun j=>[pv j]) ps.length)):=hid (own_kept H.out.row (fun b e=>HC.out.block b (own_lt H.out.row e).2 (fun ⟨i,h1,h2,h3⟩=>by have:=H.out.out b e i h1;omega)))
  by_cases hlt:j<ps.length
  ·have q1:(j:Int)<(ps.length:Int):=by omega
   obtain ⟨g,cap2,e1,hB,hg,hc,hm⟩:=Nst.own_some HRW.out (by omega)
   cases e1
   have hrow:=HRW.out
   have c0:wr.cell? ⟨g,j,none⟩=some (pv j):=by
    have h1:=hrow.cellAt (j*1) (by omega)
    have h2:=Nst.flat_get (f:=fun j=>[pv j]) (z:=1) (n:=ps.length) (j:=j) (c:=0) (fun _ _=>rfl) hlt (by omega)
    rw [Nat.mul_one] at h1
    rw [Nat.mul_one,Nat.add_zero] at h2
    rw [h1,h2];rfl
   have hin:=HI.out j hlt
   rw [if_neg (Nat.lt_irrefl j)] at hin
   obtain ⟨x1,x2,hx⟩:=Nst.own_slice hin.at'.row
   rw [hx] at c0
   have h2:=HF.out.each j hlt
   have hkj:=HK.out j (by omega)
   have HM:=hid (Sk.markStepsP (lo j) (hi j) (kP k0 ps j) (PJs ps j) (pv j) (C j) (E j) wr h2.1 (HP.out j) (by omega) h2.2 hin.at' hin.row hin.sub)
   rw [hx] at HM
   have HX:=hid hx
   have HROW:=hid hin.row
   have HSUB:=hid hin.sub
   clear hin hx hrow h2
   go_wp2_with fail
   refine HM.out.mono ?_
   rintro e w1 ⟨rfl,hs,ham⟩
   have HC1:Hid (Chg (InI ps.length lo hi) w w1):=hid (HC.out.trans (chg_amid ham (fun b h1 h2=>⟨j,hlt,h1,h2⟩)))
   have HI1:Hid (∀i,i<ps.length→PIn w1 (lo i) (hi i) (pv i) (if i<j+1 then mkS (kP k0 ps i) (PJs ps i) else PJs ps i) (C i) (E i)):=hid (fun i hi'=>by
    by_cases e:i=j
    ·subst e
     rw [if_pos (Nat.lt_succ_self i)]
     refine ⟨by rw [HX.out];exact hs,HROW.out,fun x hx b hb=>HSUB.out x (by rw [mkS_len] at hx;exact hx) b hb⟩
    ·have h3:=(HI.out i hi').kept (w':=w1) (fun b h1 h2 h3=>ham.block b h3 (by have:=H.out.sep i j hi' hlt e;omega))
     by_cases e2:i<j
     ·rw [if_pos e2] at h3;rw [if_pos (by omega)];exact h3
     ·rw [if_neg e2] at h3;rw [if_neg (by omega)];exact h3)
   clear hs ham HM
   go_wp2
   exact ⟨⟨j+1,by simp,by simp [kP],by omega,HI1,HC1⟩,by simp [intOf];omega⟩
  ·obtain rfl:j=ps.length:=by omega
   have HE:Hid (PRow wr B (.slice a ps.length cap) (mkP k0 ps) pv C E lo hi):=hid (by
    refine ⟨by rw [mkP_len];exact HRW.out,fun i hi'=>?_,fun i hi'=>?_,fun i i2 hi' hi2=>?_,fun b e i hi'=>?_⟩
    ·rw [mkP_len] at hi'
     have:=HI.out i hi'
     rw [if_pos hi'] at this
     rw [mkP_J hi'];exact this
    ·rw [mkP_len] at hi'
     have:=H.out.base i hi'
     have:=HC.out.size
     omega
    ·rw [mkP_len] at hi' hi2;exact H.out.sep i i2 hi' hi2
    ·rw [mkP_len] at hi';exact H.out.out b e i hi')
   go_wp2
   go_ret
   exact ⟨rfl,HE.out,HC.out⟩
set_option maxRecDepth 100000 in
set_option maxHeartbeats 8000000 in
theorem heldP (B k0:Nat) (ps:List (List StepD)) (v:Value) (w:World) (hf:FewP ps) (h0:0<k0) (hk0:k0≤800000) (ha:Ep.At w B v (mkP k0 ps)):
    Calls Tryz.prog 127 #[v,.int .i64 (k0:Int)] w fun e w'=>e=.returned (.int .i64 (kP k0 ps ps.length:Int))∧Below w.heap.size w w':=by
 obtain ⟨a,cap,rfl⟩:=ha.slice
 have HA:=hid ha
 have HF:=hid hf
 have hl3:=hf.len
 have HK:=hid (fun i (hi:i≤ps.length)=>kP_le (k0:=k0) hf i hi)
 have HP:=hid (kP_pos h0 ps)
 have HML:=hid (mkP_len k0 ps)
 clear ha hf
 go_enter Tryz.func127,Tryz.ntmps127
 go_wp2
 go_loopw [1,5] (fun q i wr=>∃(j:Nat),i=.int .i64 j∧q=.int .i64 (kP k0 ps j:Int)∧j≤ps.length∧Hid (Below w.heap.size w wr)) (fun _ i _=>ps.length - (intOf i).toNat)
 case atStart=>exact ⟨0,rfl,rfl,Nat.zero_le _,hid (Below.refl _ _)⟩
 case round=>
  obtain ⟨j,rfl,rfl,hj,HB⟩:=hrel
  by_cases hlt:j<ps.length
  ·have hlt2:j<(mkP k0 ps).length:=by rw [HML.out];exact hlt
   have q1:(j:Int)<((mkP k0 ps).length:Int):=by omega
   obtain ⟨g,o,x1,rfl,hg,c0,hst⟩:=(HA.out.below HB.out).at hlt2
   obtain ⟨s1,s2,rfl⟩:=hst.slice
   have hmk:=mkP_J (k0:=k0) hlt
   rw [PJs_eq hlt2] at hmk
   have h2:=HF.out.each j hlt
   have hkj:=HK.out j (by omega)
   have HM:=hid (Sk.heldSteps B (kP k0 ps j) (PJs ps j) _ wr h2.1 (HP.out j) (by omega) h2.2 (by rw [←hmk];exact hst))
   have hkn:=HK.out (j+1) (by omega)
   have hpn:=HP.out (j+1)
   have b6:¬((kAt (kP k0 ps j) (PJs ps j) (PJs ps j).length:Nat):Int)<0:=by omega
   clear hst hmk h2
   go_wp2_with fail
   refine HM.out.mono ?_
   rintro e w1 ⟨rfl,hb1⟩
   have HB1:=hid (HB.out.trans (hb1.mono HB.out.size))
   clear hb1 HM
   go_wp2
   exact ⟨⟨j+1,by simp,by simp [kP],by omega,HB1⟩,by simp [intOf];omega⟩
  ·obtain rfl:j=ps.length:=by omega
   have q1:¬(ps.length:Int)<((mkP k0 ps).length:Int):=by have:=HML.out;omega
   go_wp2
   go_ret
   exact ⟨rfl,HB.out⟩
end Eo
end Go.Proofs.YtccklgopcjilcaaGreatDoor
/- The law's marks in the instances of an engine that a function has made itself, and whether they hold. -/
namespace Go.Proofs.YtccklgopcjilcaaGreatDoor
open Go.RowKit Go.Deep
set_option linter.unusedVariables false
namespace Eo
open Ex (hid)
open Nst (own flat own_lt own_kept)
open Ei (InstD)
open Cr (marksF marksF_len)
open Ints (vals)
def kI (k0:Int) (is:List InstD):Nat→Int
 | 0=>k0
 | i+1=>kI k0 is i+1+1+1+((IJ is i).chart.vars.length:Int)+((IJ is i).chart.marks.length:Int)+((IJ is i).chart.dues.length:Int)
def mI (k:Int) (x:InstD):InstD:=⟨k,k+1,k+1+1,marksF (k+1+1+1) x.chart.vars.length,marksF (k+1+1+1+(x.chart.vars.length:Int)) x.chart.marks.length,marksF (k+1+1+1+(x.chart.vars.length:Int)+(x.chart.marks.length:Int)) x.chart.dues.length⟩
structure FewI (is:List InstD):Prop where
 len:is.length≤7
 each:∀j,j<is.length→(IJ is j).chart.vars.length≤64∧(IJ is j).chart.marks.length≤64∧(IJ is j).chart.dues.length≤64
theorem kI_le {k0:Int} {is:List InstD} (hf:FewI is):∀i,i≤is.length→k0≤kI k0 is i∧kI k0 is i≤k0+195*(i:Int)
 | 0,_=>by simp [kI]
 | i+1,h=>by
  have h1:=kI_le (k0:=k0) hf i (by omega)
  have h2:=hf.each i (by omega)
  rw [kI];push_cast;omega
def mkI (k0:Int) (is:List InstD):List InstD:=(List.range is.length).map (fun i=>mI (kI k0 is i) (IJ is i))
theorem mkI_len (k0:Int) (is:List InstD):(mkI k0 is).length=is.length:=by simp [mkI]
theorem mkI_J {k0:Int} {is:List InstD} {i:Nat} (h:i<is.length):IJ (mkI k0 is) i=mI (kI k0 is i) (IJ is i):=by
 rw [IJ_eq (by rw [mkI_len];exact h)];simp [mkI]
abbrev Z0:Nat→Nst.Sub:=fun _=>⟨0,0,.slice none 0 0,0,[]⟩
abbrev ic (k0:Int) (is:List InstD) (u1 u2 u3:Nat→Value) (j:Nat):Nat→List Value:=fun i=>icell (if i<j then mI (kI k0 is i) (IJ is i) else IJ is i) (u1 i) (u2 i) (u3 i)
theorem chg_grown {S:Nat→Prop} {w w':World} {r:Option Nat} (h:w.grownBy w' r) (hs:∀b,r=some b→S b):Chg S w w':=⟨h.os,h.tape,h.output,h.size,fun b hb hn=>h.block b hb (fun e=>hn (hs b e.symm))⟩
theorem chg_set {S:Nat→Prop} (w:World) (g i:Nat) (u:Value) (hs:S g):Chg S w (w.setCell ⟨g,i,none⟩ u):=⟨rfl,rfl,rfl,by simp [World.setCell],fun b hb hn=>Below.heap_setCell _ _ _ _ (fun e=>hn (by rw [e];exact hs))⟩
set_option maxRecDepth 100000 in
set_option maxHeartbeats 2000000 in
theorem markI (B:Nat) (k0:Int) (is:List InstD) (v:Value) (u1 u2 u3:Nat→Value) (lo hi:Nat→Nat) (w:World) (hf:FewI is) (h0:0<k0) (hk0:k0≤1000000) (h:IRow w B v is u1 u2 u3 lo hi):
    Calls Tryz.prog 78 #[v,.int .i64 k0] w fun e w'=>e=.returned (.int .i64 (kI k0 is is.length))∧IRow w' B v (mkI k0 is) u1 u2 u3 lo hi∧Chg (fun b=>own v b∨InI is.length lo hi b) w w':=by
 obtain ⟨a,cap,rfl⟩:=Nst.own_slice h.row
 have HF:=hid hf
 have H:=hid h
 have hl3:=hf.len
 have HK:=hid (fun i (hi:i≤is.length)=>kI_le (k0:=k0) hf i hi)
 have H0:Hid (Nst.At w B 114 6 (.slice a is.length cap) is.length (ic k0 is u1 u2 u3 0) 0 Z0):=hid ⟨by
  have h1:=h.row
  rw [Nst.flat_congr (g:=ic k0 is u1 u2 u3 0) (fun i _=>by simp only [ic,Nat.not_lt_zero,if_false])] at h1
  exact h1,fun i hi=>by omega,fun i j hi=>by omega,fun i hi=>by omega⟩
 clear h hf
 go_enter Tryz.func78,Tryz.ntmps78
 go_wp2
 go_loopw [1,5] (fun q i wr=>∃(j:Nat) (k:Int),i=.int .i64 j∧q=.int .i64 k∧j≤is.length∧Hid (k=kI k0 is j)∧Hid (Nst.At wr B 114 6 (.slice a is.length cap) is.length (ic k0 is u1 u2 u3 j) 0 Z0)∧Hid (∀i,i<is.length→IIn wr (lo i) (hi i) (u1 i) (u2 i) (u3 i) (if i<j then mI (kI k0 is i) (IJ is i) else IJ is i).chart)∧Hid (Chg (fun b=>own (.slice a is.length cap) b∨InI is.length lo hi b) w wr)) (fun _ i _=>is.length - (intOf i).toNat)
 case atStart=>exact ⟨0,k0,rfl,rfl,Nat.zero_le _,hid rfl,H0,hid (fun i hi=>by rw [if_neg (by omega)];exact H.out.iin i hi),hid (Chg.refl _ _)⟩
 case round=>
  obtain ⟨j,k,rfl,rfl,hj,hk,HR,HI,HC⟩:=hrel
  by_cases hlt:j<is.length
  ·have q1:(j:Int)<(is.length:Int):=by omega
   obtain ⟨g,cap2,e1,hB,hg,hc,hm⟩:=Nst.own_some HR.out.row (by omega)
   cases e1
   have hml:∀x,x<is.length→(ic k0 is u1 u2 u3 j x).length=6:=fun _ _=>rfl
   have hx:ic k0 is u1 u2 u3 j j=icell (IJ is j) (u1 j) (u2 j) (u3 j):=by simp [ic]
   have hr:=HR.out
   have key:∀c,c<6→wr.cell? ⟨g,j*6+c,none⟩=(icell (IJ is j) (u1 j) (u2 j) (u3 j))[c]?:=fun c hc=>by rw [←hx];exact hr.cell hml hlt hc
   have c0:wr.cell? ⟨g,j*6,none⟩=some (.int .i64 (IJ is j).proc):=key 0 (by omega)
   have c1:wr.cell? ⟨g,j*6+1,none⟩=some (.int .i64 (IJ is j).chart.status):=key 1 (by omega)
   have c2:wr.cell? ⟨g,j*6+2,none⟩=some (.int .i64 (IJ is j).chart.now):=key 2 (by omega)
   have f0:=hr.free (j*6)
   have f1:=hr.free (j*6+1)
   have f2:=hr.free (j*6+2)
   have c3:wr.cell? ⟨g,j*6+1+2,none⟩=some (u1 j):=key 3 (by omega)
   have c1':wr.cell? ⟨g,j*6+1+1,none⟩=some (.int .i64 (IJ is j).chart.now):=key 2 (by omega)
   have f2':=hr.free (j*6+1+1)
   have hin:=HI.out j hlt
   rw [if_neg (Nat.lt_irrefl j)] at hin
   have hkj:=HK.out j (by omega)
   have hfe:=HF.out.each j hlt
   have hgB:=(own_lt hr.row (b:=g) rfl).1
   have hgout:=H.out.out g rfl j hlt
   rw [←hk.out] at hkj
   obtain ⟨x,hx2⟩:∃x,Hid (x=IJ is j):=⟨_,hid rfl⟩
   rw [←hx2.out] at hin hfe hx
   obtain ⟨x1,y1,e1⟩:=Ints.owns_slice hin.own.vars
   obtain ⟨x2,y2,e2⟩:=Ints.owns_slice hin.own.marks
   obtain ⟨x3,y3,e3⟩:=Ints.owns_slice hin.own.dues
   have step:∀ {wx:World} {L:List Value} (i:Nat) (u:Value),Nst.At wx B 114 6 (.slice (some ⟨g,0,none⟩) is.length cap) is.length (fun y=>if y=j then L else ic k0 is u1 u2 u3 j y) 0 Z0→L.length=6→i<6→Nst.At (wx.setCell ⟨g,j*6+i,none⟩ u) B 114 6 (.slice (some ⟨g,0,none⟩) is.length cap) is.length (fun y=>if y=j then L.set i u else ic k0 is u1 u2 u3 j y) 0 Z0:=fun {wx L} i u ha hL hi=>by
    have:=ha.setRow (fun y hy=>by by_cases e:y=j <;> simp only [e,if_true,if_false];exact hL;exact hml y hy) hlt hi u
    refine this.congr (fun y hy=>?_) (fun _ _=>rfl)
    by_cases e:y=j <;> simp only [e,if_true,if_false]
   have s0:Nst.At wr B 114 6 (.slice (some ⟨g,0,none⟩) is.length cap) is.length (fun y=>if y=j then icell x (u1 j) (u2 j) (u3 j) else ic k0 is u1 u2 u3 j y) 0 Z0:=hr.congr (fun y hy=>by
    by_cases e:y=j
    ·subst e;rw [if_pos rfl];exact hx.symm
    ·rw [if_neg e]) (fun _ _=>rfl)
   have s1:=step 0 (.int .i64 k) s0 rfl (by omega)
   have s2:=step 1 (.int .i64 (k+1)) s1 rfl (by omega)
   have s3:=step 2 (.int .i64 (k+1+1)) s2 rfl (by omega)
   obtain ⟨wA,eA⟩:∃wA,wA=((wr.setCell ⟨g,j*6,none⟩ (.int .i64 k)).setCell ⟨g,j*6+1,none⟩ (.int .i64 (k+1))).setCell ⟨g,j*6+1+1,none⟩ (.int .i64 (k+1+1)):=⟨_,rfl⟩
   have HRA:Hid (Nst.At wA B 114 6 (.slice (some ⟨g,0,none⟩) is.length cap) is.length (fun y=>if y=j then icell ⟨k,k+1,k+1+1,x.chart.vars,x.chart.marks,x.chart.dues⟩ (u1 j) (u2 j) (u3 j) else ic k0 is u1 u2 u3 j y) 0 Z0):=hid (by rw [eA];exact s3)
   have HCA:Hid (Chg (fun b=>b=g∨(lo j≤b∧b<hi j)) wr wA):=hid (by rw [eA];exact ((chg_set _ _ _ _ (.inl rfl)).trans (chg_set _ _ _ _ (.inl rfl))).trans (chg_set _ _ _ _ (.inl rfl)))
   have hkeepA:∀b,b≠g→wA.heap[b]?=wr.heap[b]?:=fun b hb=>by rw [eA];repeat rw [Below.heap_setCell _ _ _ _ (by dsimp only;omega)]
   have hsA:wA.heap.size=wr.heap.size:=by rw [eA];simp [World.setCell]
   have HIA:Hid (IIn wA (lo j) (hi j) (u1 j) (u2 j) (u3 j) x.chart):=hid (hin.kept (fun b h1 h2 h3=>hkeepA b (by omega)))
   have HM1:=hid (Cr.markS (lo j) (u1 j) x.chart.vars (k+1+1+1) wA (by omega) (by omega) (by omega) HIA.out.own.vars)
   have HIN:=hid hin
   have HKS:Hid (kI k0 is (j+1)=k+1+1+1+(x.chart.vars.length:Int)+(x.chart.marks.length:Int)+(x.chart.dues.length:Int)):=hid (by rw [kI,←hk.out,←hx2.out])
   have HMX:Hid (mI (kI k0 is j) (IJ is j)=mI k x):=hid (by rw [←hk.out,←hx2.out])
   have n1:=fun b (e:own (u1 j) b)=>(show lo j≤b∧b<hi j from ⟨(Cr.own_in hin.own.vars e).1,hin.lt b (.inl e)⟩)
   have n2:=fun b (e:own (u2 j) b)=>(show lo j≤b∧b<hi j from ⟨(Cr.own_in hin.own.marks e).1,hin.lt b (.inr (.inl e))⟩)
   have n3:=fun b (e:own (u3 j) b)=>(show lo j≤b∧b<hi j from ⟨(Cr.own_in hin.own.dues e).1,hin.lt b (.inr (.inr e))⟩)
   have N1:=hid n1
   have N2:=hid n2
   have N3:=hid n3
   have HGO:=hid hgout
   have HINI:Hid (∀b,lo j≤b→b<hi j→(b=g∨(lo j≤b∧b<hi j))):=hid (fun b h1 h2=>.inr ⟨h1,h2⟩)
   clear key step s0 s1 s2 s3 hr hml hx hin hgout n1 n2 n3 hkeepA hsA e1 e2 e3
   go_wp2_with fail
   try rw [←eA]
   refine HM1.out.mono ?_
   rintro e w4 ⟨rfl,hv4,hg4⟩
   have hk4:∀b,(b<lo j∨hi j≤b)→b<wA.heap.size→w4.heap[b]?=wA.heap[b]?:=fun b hb hl=>hg4.block b hl (fun e=>by have:=N1.out b e.symm;omega)
   have HR4:=hid (HRA.out.kept (w':=w4) (fun b e=>by cases e;exact hk4 g HGO.out (own_lt HRA.out.row rfl).2) (fun i hi=>by omega))
   have m4:w4.cell? ⟨g,j*6+1+3,none⟩=some (u2 j):=by have:=HR4.out.cell (fun y hy=>by by_cases e:y=j <;> simp only [e,if_true,if_false] <;> rfl) hlt (i:=4) (by omega);rw [if_pos rfl] at this;exact this
   have HV4:=hid hv4
   have HO4:=hid (Cr.own_kept HIA.out.own.marks (fun b e=>hg4.block b (Cr.own_in HIA.out.own.marks e).2 (fun e2=>HIA.out.own.d12 b e2.symm e)))
   have HD4:=hid (Cr.own_kept HIA.out.own.dues (fun b e=>hg4.block b (Cr.own_in HIA.out.own.dues e).2 (fun e2=>HIA.out.own.d13 b e2.symm e)))
   have HC4:Hid (Chg (fun b=>b=g∨(lo j≤b∧b<hi j)) wr w4):=hid (HCA.out.trans (chg_grown hg4 (fun b e=>HINI.out b (N1.out b e).1 (N1.out b e).2)))
   have HM2:=hid (Cr.markS (lo j) (u2 j) x.chart.marks (k+1+1+1+(x.chart.vars.length:Int)) w4 (by omega) (by omega) (by omega) HO4.out)
   have lg4:=(own_lt HR4.out.row (b:=g) rfl).2
   clear hv4 hg4 hk4 HM1 c0 c1 c2 c3 c1' f0 f1 f2 f2' eA
   go_wp2_with fail
   refine HM2.out.mono ?_
   rintro e w5 ⟨rfl,hv5,hg5⟩
   have hk5:∀b,(b<lo j∨hi j≤b)→b<w4.heap.size→w5.heap[b]?=w4.heap[b]?:=fun b hb hl=>hg5.block b hl (fun e=>by have:=N2.out b e.symm;omega)
   have HR5:=hid (HR4.out.kept (w':=w5) (fun b e=>by cases e;exact hk5 g HGO.out (own_lt HR4.out.row rfl).2) (fun i hi=>by omega))
   have m5:w5.cell? ⟨g,j*6+1+4,none⟩=some (u3 j):=by have:=HR5.out.cell (fun y hy=>by by_cases e:y=j <;> simp only [e,if_true,if_false] <;> rfl) hlt (i:=5) (by omega);rw [if_pos rfl] at this;exact this
   have HV5:=hid hv5
   have HA5:=hid (Cr.own_kept HV4.out (fun b e=>hg5.block b (Cr.own_in HV4.out e).2 (fun e2=>HIA.out.own.d12 b e e2.symm)))
   have HD5:=hid (Cr.own_kept HD4.out (fun b e=>hg5.block b (Cr.own_in HD4.out e).2 (fun e2=>HIA.out.own.d23 b e2.symm e)))
   have HC5:Hid (Chg (fun b=>b=g∨(lo j≤b∧b<hi j)) wr w5):=hid (HC4.out.trans (chg_grown hg5 (fun b e=>HINI.out b (N2.out b e).1 (N2.out b e).2)))
   have HM3:=hid (Cr.markS (lo j) (u3 j) x.chart.dues (k+1+1+1+(x.chart.vars.length:Int)+(x.chart.marks.length:Int)) w5 (by omega) (by omega) (by omega) HD5.out)
   have lg5:=(own_lt HR5.out.row (b:=g) rfl).2
   clear hv5 hg5 hk5 HM2 m4 lg4
   go_wp2_with fail
   refine HM3.out.mono ?_
   rintro e w6 ⟨rfl,hv6,hg6⟩
   have hk6:∀b,(b<lo j∨hi j≤b)→b<w5.heap.size→w6.heap[b]?=w5.heap[b]?:=fun b hb hl=>hg6.block b hl (fun e=>by have:=N3.out b e.symm;omega)
   have HR6:Hid (Nst.At w6 B 114 6 (.slice (some ⟨g,0,none⟩) is.length cap) is.length (ic k0 is u1 u2 u3 (j+1)) 0 Z0):=hid ((HR5.out.kept (w':=w6) (fun b e=>by cases e;exact hk6 g HGO.out (own_lt HR5.out.row rfl).2) (fun i hi=>by omega)).congr (fun y hy=>by
    by_cases e:y=j
    ·subst e;rw [if_pos rfl];simp only [ic,Nat.lt_succ_self,if_true];rw [HMX.out];rfl
    ·rw [if_neg e]
     have:(y<j+1)=(y<j):=by simp only [eq_iff_iff];omega
     simp only [ic,this]) (fun _ _=>rfl))
   have HC6:Hid (Chg (fun b=>b=g∨(lo j≤b∧b<hi j)) wr w6):=hid (HC5.out.trans (chg_grown hg6 (fun b e=>HINI.out b (N3.out b e).1 (N3.out b e).2)))
   have HI6:Hid (∀i,i<is.length→IIn w6 (lo i) (hi i) (u1 i) (u2 i) (u3 i) (if i<j+1 then mI (kI k0 is i) (IJ is i) else IJ is i).chart):=hid (fun i hi'=>by
    by_cases e:i=j
    ·subst e
     rw [if_pos (Nat.lt_succ_self i),HMX.out]
     refine ⟨⟨?_,?_,?_,HIA.out.own.d12,HIA.out.own.d13,HIA.out.own.d23⟩,HIA.out.lt⟩
     ·have:=Cr.own_kept HA5.out (fun b e=>hg6.block b (Cr.own_in HA5.out e).2 (fun e2=>HIA.out.own.d13 b e e2.symm))
      simpa [mI,marksF_len] using this
     ·have:=Cr.own_kept HV5.out (fun b e=>hg6.block b (Cr.own_in HV5.out e).2 (fun e2=>HIA.out.own.d23 b e e2.symm))
      simpa [mI,marksF_len] using this
     ·simpa [mI,marksF_len] using hv6
    ·have h3:=(HI.out i hi').kept (w':=w6) (fun b h1 h2 h3=>HC6.out.block b h3 (fun hb=>by have:=H.out.out g rfl i hi';have:=H.out.sep i j hi' hlt e;omega))
     by_cases e2:i<j
     ·rw [if_pos e2] at h3;rw [if_pos (by omega)];exact h3
     ·rw [if_neg e2] at h3;rw [if_neg (by omega)];exact h3)
   have HCZ:=hid (HC.out.trans (HC6.out.mono (fun b hb=>by rcases hb with rfl | ⟨h1,h2⟩;exact .inl rfl;exact .inr ⟨j,hlt,h1,h2⟩)))
   clear hv6 hg6 hk6 HM3 m5 lg5
   go_wp2
   exact ⟨⟨j+1,_,by simp,rfl,by omega,hid HKS.out.symm,HR6,HI6,HCZ⟩,by simp [intOf];omega⟩
  ·obtain rfl:j=is.length:=by omega
   obtain rfl:=hk.out
   have HE:Hid (IRow wr B (.slice a is.length cap) (mkI k0 is) u1 u2 u3 lo hi):=hid (by
    refine ⟨?_,fun i hi'=>?_,fun i hi'=>?_,fun i i2 hi' hi2=>?_,fun b e i hi'=>?_⟩
    ·rw [mkI_len]
     have:=HR.out.row
     rw [Nst.flat_congr (g:=fun j=>icell (IJ (mkI k0 is) j) (u1 j) (u2 j) (u3 j)) (fun i hi'=>by simp only [ic,hi',if_true,mkI_J hi'])] at this
     exact this
    ·rw [mkI_len] at hi'
     have:=HI.out i hi'
     rw [if_pos hi'] at this
     rw [mkI_J hi'];exact this
    ·rw [mkI_len] at hi'
     have:=H.out.base i hi'
     have:=HC.out.size
     omega
    ·rw [mkI_len] at hi' hi2;exact H.out.sep i i2 hi' hi2
    ·rw [mkI_len] at hi';exact H.out.out b e i hi')
   go_wp2
   go_ret
   exact ⟨rfl,HE.out,HC.out⟩
end Eo
end Go.Proofs.YtccklgopcjilcaaGreatDoor
/- Whether the law's marks still stand in the instances of an engine. -/
namespace Go.Proofs.YtccklgopcjilcaaGreatDoor
open Go.RowKit Go.Deep
set_option linter.unusedVariables false
namespace Eo
open Ex (hid)
open Ei (InstD)
open Cr (marksF marksF_len)
set_option maxRecDepth 100000 in
set_option maxHeartbeats 4000000 in
theorem heldI (B:Nat) (k0:Int) (is:List InstD) (v:Value) (w:World) (hf:FewI is) (h0:0<k0) (hk0:k0≤1000000) (ha:Ei.At w B v (mkI k0 is)):
    Calls Tryz.prog 128 #[v,.int .i64 k0] w fun e w'=>e=.returned (.int .i64 (kI k0 is is.length))∧Below w.heap.size w w':=by
 obtain ⟨a,cap,rfl⟩:=ha.slice
 have HA:=hid ha
 have HF:=hid hf
 have hl3:=hf.len
 have HK:=hid (fun i (hi:i≤is.length)=>kI_le (k0:=k0) hf i hi)
 have HML:=hid (mkI_len k0 is)
 clear ha hf
 go_enter Tryz.func128,Tryz.ntmps128
 go_wp2
 go_loopw [1,5] (fun q i wr=>∃(j:Nat) (k:Int),i=.int .i64 j∧q=.int .i64 k∧j≤is.length∧Hid (k=kI k0 is j)∧Hid (Below w.heap.size w wr)) (fun _ i _=>is.length - (intOf i).toNat)
 case atStart=>exact ⟨0,k0,rfl,rfl,Nat.zero_le _,hid rfl,hid (Below.refl _ _)⟩
 case round=>
  obtain ⟨j,k,rfl,rfl,hj,hk,HB⟩:=hrel
  by_cases hlt:j<is.length
  ·have hlt2:j<(mkI k0 is).length:=by rw [HML.out];exact hlt
   have q1:(j:Int)<((mkI k0 is).length:Int):=by omega
   obtain ⟨x,hx2⟩:∃x,Hid (x=IJ is j):=⟨_,hid rfl⟩
   have hmk:=mkI_J (k0:=k0) hlt
   rw [IJ_eq hlt2,←hk.out,←hx2.out] at hmk
   obtain ⟨g,o,v1,v2,v3,rfl,hg,c0,c1,c2,c3,c4,c5,hy⟩:=(HA.out.below HB.out).at hlt2
   rw [hmk] at c0 c1 c2 hy
   replace c0:wr.cell? ⟨g,o+j*6,none⟩=some (.int .i64 k):=c0
   replace c1:wr.cell? ⟨g,o+j*6+1,none⟩=some (.int .i64 (k+1)):=c1
   replace c2:wr.cell? ⟨g,o+j*6+1+1,none⟩=some (.int .i64 (k+1+1)):=c2
   replace c3:wr.cell? ⟨g,o+j*6+1+2,none⟩=some v1:=c3
   replace c4:wr.cell? ⟨g,o+j*6+1+3,none⟩=some v2:=c4
   replace c5:wr.cell? ⟨g,o+j*6+1+4,none⟩=some v3:=c5
   have h2:=HF.out.each j hlt
   have hkj:=HK.out j (by omega)
   rw [←hx2.out] at h2
   rw [←hk.out] at hkj
   have d0:(k != k)=false:=by simp
   have d1:(k+1 != k+1)=false:=by simp
   have d2:(k+1+1 != k+1+1)=false:=by simp
   have HM1:=hid (Cr.heldS B v1 x.chart.vars.length (k+1+1+1) wr (by omega) (by omega) (by omega) hy.vars)
   have HM2:=hid (Cr.heldS B v2 x.chart.marks.length (k+1+1+1+(x.chart.vars.length:Int)) wr (by omega) (by omega) (by omega) hy.marks)
   have HM3:=hid (Cr.heldS B v3 x.chart.dues.length (k+1+1+1+(x.chart.vars.length:Int)+(x.chart.marks.length:Int)) wr (by omega) (by omega) (by omega) hy.dues)
   have HKS:Hid (kI k0 is (j+1)=k+1+1+1+(x.chart.vars.length:Int)+(x.chart.marks.length:Int)+(x.chart.dues.length:Int)):=hid (by rw [kI,←hk.out,←hx2.out])
   have b1:¬(k+1+1+1+(x.chart.vars.length:Int))<0:=by omega
   have b2:¬(k+1+1+1+(x.chart.vars.length:Int)+(x.chart.marks.length:Int))<0:=by omega
   have b3:¬(k+1+1+1+(x.chart.vars.length:Int)+(x.chart.marks.length:Int)+(x.chart.dues.length:Int))<0:=by omega
   clear hmk hy
   go_wp2_with fail
   refine HM1.out.mono ?_
   rintro e w1 ⟨rfl,e1⟩
   obtain rfl:=e1
   go_wp2_with fail
   refine HM2.out.mono ?_
   rintro e w1 ⟨rfl,e1⟩
   obtain rfl:=e1
   go_wp2_with fail
   refine HM3.out.mono ?_
   rintro e w1 ⟨rfl,e1⟩
   obtain rfl:=e1
   go_wp2
   exact ⟨⟨j+1,_,by simp,rfl,by omega,hid HKS.out.symm,HB⟩,by simp [intOf];omega⟩
  ·obtain rfl:j=is.length:=by omega
   obtain rfl:=hk.out
   have q1:¬(is.length:Int)<((mkI k0 is).length:Int):=by have:=HML.out;omega
   go_wp2
   go_ret
   exact ⟨rfl,HB.out⟩
end Eo
end Go.Proofs.YtccklgopcjilcaaGreatDoor
/- The law's marks in an engine that a function has made itself, whether they hold, and the comparison of two answers. -/
namespace Go.Proofs.YtccklgopcjilcaaGreatDoor
open Go.RowKit Go.Deep
set_option linter.unusedVariables false
namespace Eo
open Ex (hid)
open St (StepD)
open Ei (InstD)
open En (EngD)
open Nst (own own_lt)
open Ch (blk_cell new_blk blk_lt new_at)
def mkE (k0:Nat) (e:EngD):EngD:=⟨mkP k0 e.procs,mkI (kP k0 e.procs e.procs.length) e.insts,e.now⟩
def kE (k0:Nat) (e:EngD):Int:=kI (kP k0 e.procs e.procs.length) e.insts e.insts.length
structure FewE (e:EngD):Prop where
 procs:FewP e.procs
 insts:FewI e.insts
def EOwnC (w:World) (B M:Nat) (vp vi:Value) (e:EngD):Prop:=∃pv C E pl ph u1 u2 u3 il ih,PRow w B vp e.procs pv C E pl ph∧IRow w B vi e.insts u1 u2 u3 il ih∧
 (∀b,own vp b∨InI e.procs.length pl ph b→¬(own vi b∨InI e.insts.length il ih b))∧∀b,(own vp b∨InI e.procs.length pl ph b)∨own vi b∨InI e.insts.length il ih b→b<M
theorem EOwnC.of {w:World} {B:Nat} {vp vi:Value} {e:EngD} (h:EOwn w B vp vi e):EOwnC w B w.heap.size vp vi e:=by
 obtain ⟨pv,C,E,pl,ph,u1,u2,u3,il,ih,h1,h2,h3⟩:=h
 exact ⟨pv,C,E,pl,ph,u1,u2,u3,il,ih,h1,h2,h3,fun b h=>by rcases h with h | h;exact (h1.in h).2;exact (h2.in h).2⟩
theorem EOwnC.own {w:World} {B M:Nat} {vp vi:Value} {e:EngD} (h:EOwnC w B M vp vi e):EOwn w B vp vi e:=by
 obtain ⟨pv,C,E,pl,ph,u1,u2,u3,il,ih,h1,h2,h3,_⟩:=h
 exact ⟨pv,C,E,pl,ph,u1,u2,u3,il,ih,h1,h2,h3⟩
theorem EOwnC.keep {w w':World} {B M:Nat} {vp vi:Value} {e:EngD} (h:EOwnC w B M vp vi e) (hs:w.heap.size≤w'.heap.size) (hb:∀b,B≤b→b<M→b<w.heap.size→w'.heap[b]?=w.heap[b]?):EOwnC w' B M vp vi e:=by
 obtain ⟨pv,C,E,pl,ph,u1,u2,u3,il,ih,h1,h2,h3,h4⟩:=h
 exact ⟨pv,C,E,pl,ph,u1,u2,u3,il,ih,h1.kept hs (fun b hx hl=>hb b (h1.in hx).1 (h4 b (.inl hx)) hl),h2.kept hs (fun b hx hl=>hb b (h2.in hx).1 (h4 b (.inr hx)) hl),h3,h4⟩
theorem EOwnC.below {w w':World} {B M:Nat} {vp vi:Value} {e:EngD} (h:EOwnC w B M vp vi e) (hb:Below w.heap.size w w'):EOwnC w' B M vp vi e:=h.keep hb.size (fun b _ _ hl=>hb.block b hl)
theorem EOwnC.slices {w:World} {B M:Nat} {vp vi:Value} {e:EngD} (h:EOwnC w B M vp vi e):(∃a k,vp=.slice a e.procs.length k)∧∃a k,vi=.slice a e.insts.length k:=by
 obtain ⟨_,_,_,_,_,_,_,_,_,_,h1,h2,_⟩:=h
 exact ⟨Nst.own_slice h1.row,Nst.own_slice h2.row⟩
theorem mkE_np (k0:Nat) (e:EngD):(mkE k0 e).procs.length=e.procs.length:=mkP_len _ _
theorem mkE_ni (k0:Nat) (e:EngD):(mkE k0 e).insts.length=e.insts.length:=mkI_len _ _
set_option maxRecDepth 100000 in
set_option maxHeartbeats 2000000 in
theorem markE (B M k0:Nat) (e:EngD) (vp vi:Value) (w:World) (hf:FewE e) (h0:0<k0) (hk0:k0≤800000) (h:EOwnC w B M vp vi e):
    Calls Tryz.prog 32 #[.agg #[vp,vi,.int .i64 e.now],.int .i64 (k0:Int)] w fun z w'=>z=.returned (.int .i64 (kE k0 e))∧EOwnC w' B M vp vi (mkE k0 e)∧Chg (fun b=>B≤b∧b<M) w w':=by
 obtain ⟨⟨a1,k1,rfl⟩,a2,k2,rfl⟩:=h.slices
 obtain ⟨w0,e0⟩:∃w0,w0=w.alloc (.cells #[.slice a1 e.procs.length k1,.slice a2 e.insts.length k2,.int .i64 e.now] 27):=⟨_,rfl⟩
 have hb0:Below w.heap.size w w0:=by rw [e0];exact (Below.refl _ w).alloc (Nat.le_refl _) _
 have K0:w0.heap[w.heap.size]?=some (.cells #[.slice a1 e.procs.length k1,.slice a2 e.insts.length k2,.int .i64 e.now] 27):=by rw [e0];exact new_blk _ _
 obtain ⟨pv,C,E,pl,ph,u1,u2,u3,il,ih,h1,h2,h3,h4⟩:=h
 have hin1:∀b,InI e.procs.length pl ph b→b<w.heap.size:=fun b hx=>(h1.in (.inr hx)).2
 have HS:Hid (∀b,InI e.procs.length pl ph b→B≤b∧b<M):=hid (fun b hx=>⟨(h1.in (.inr hx)).1,h4 b (.inl (.inr hx))⟩)
 have HT:Hid (∀b,own (.slice a2 e.insts.length k2) b∨InI e.insts.length il ih b→B≤b∧b<M):=hid (fun b hx=>⟨(h2.in hx).1,h4 b (.inr hx)⟩)
 have H3:=hid h3
 have H4:=hid h4
 have HI0:=hid (h2.below hb0)
 have HM1:=hid (markP B k0 e.procs _ pv C E pl ph w0 hf.procs h0 hk0 (h1.below hb0))
 have HF:=hid hf
 have HC0:Hid (Chg (fun b=>B≤b∧b<M) w w0):=hid (Chg.of_below hb0)
 have HN:=hid hin1
 have hkp:=kP_le (k0:=k0) hf.procs e.procs.length (Nat.le_refl _)
 have hpp:=kP_pos h0 e.procs e.procs.length
 have hl:=hf.procs.len
 have hkb:(kP k0 e.procs e.procs.length:Int)≤1000000:=by omega
 clear h1 h2 h3 h4 hb0 hin1 hf hkp hl
 go_enter Tryz.func32,Tryz.ntmps32
 go_wp2_with fail
 rw [←e0]
 clear e0
 refine HM1.out.mono ?_
 rintro z w1 ⟨rfl,hp1,hc1⟩
 have HP1:=hid hp1
 have HI1:=hid (HI0.out.kept hc1.size (fun b hx hl=>hc1.block b hl (fun hy=>H3.out b (.inr hy) hx)))
 have K1:w1.heap[w.heap.size]?=some (.cells #[.slice a1 e.procs.length k1,.slice a2 e.insts.length k2,.int .i64 e.now] 27):=(hc1.block _ (blk_lt K0) (fun hy=>by have:=HN.out _ hy;omega)).trans K0
 have c1:w1.cell? ⟨w.heap.size,1,none⟩=some (.slice a2 e.insts.length k2):=by rw [blk_cell K1];rfl
 have m1:=blk_lt K1
 have HC1:Hid (Chg (fun b=>B≤b∧b<M) w w1):=hid (HC0.out.trans (hc1.mono HS.out))
 have HM2:=hid (markI B (kP k0 e.procs e.procs.length:Int) e.insts _ u1 u2 u3 il ih w1 HF.out.insts (by omega) hkb HI1.out)
 clear hp1 hc1 K0 K1 HM1
 go_wp2_with fail
 refine HM2.out.mono ?_
 rintro z w2 ⟨rfl,hi2,hc2⟩
 have HO:Hid (EOwnC w2 B M (.slice a1 e.procs.length k1) (.slice a2 e.insts.length k2) (mkE k0 e)):=hid (by
  refine ⟨pv,C,E,pl,ph,u1,u2,u3,il,ih,HP1.out.kept hc2.size (fun b hx hl=>hc2.block b hl (fun hy=>?_)),hi2,?_,?_⟩
  ·rw [mkP_len] at hx;exact H3.out b hx hy
  ·rw [mkE_np,mkE_ni];exact H3.out
  ·rw [mkE_np,mkE_ni];exact H4.out)
 have HC2:Hid (Chg (fun b=>B≤b∧b<M) w w2):=hid (HC1.out.trans (hc2.mono HT.out))
 clear hi2 hc2
 go_wp2
 go_ret
 exact ⟨rfl,HO.out,HC2.out⟩
end Eo
end Go.Proofs.YtccklgopcjilcaaGreatDoor
