/- Laid together: DmT, ClM, OfA, KsF. -/
import Derived.Test.YtccklgopcjilcaaGreatDoorJCT30
import Derived.Test.YtccklgopcjilcaaGreatDoorJCT14
import Derived.Test.YtccklgopcjilcaaGreatDoorJCT23
import Derived.Test.YtccklgopcjilcaaGreatDoorJCT10
import Derived.Test.YtccklgopcjilcaaGreatDoorJCT11
import Derived.Laws.OwnMore
import Derived.Test.YtccklgopcjilcaaGreatDoorJCT18
import Derived.Deep.RegionHeld3
/- DeskFault of the program. Condition: the table of rules lies as its initialiser lays it. -/
namespace Go.Proofs.YtccklgopcjilcaaGreatDoor
open Go.RowKit Go.Deep
set_option linter.unusedVariables false
set_option linter.unusedSimpArgs false
namespace Dk
open Pf (Rul)
open Ex (hid)
open Ch (blk_lt new_blk)
set_option maxRecDepth 100000 in
set_option maxHeartbeats 2000000 in
theorem implDeskFault (d:DeskD) (vp vi vc:Value) (w:World) (hs:Small 1048576 d) (ha:At w 0 vp vi vc d) (hr:Rul w):
    Calls Tryz.prog 57 #[.agg #[vp,vi,.int .i64 d.eng.now,vc]] w fun z w'=>z=.returned (.int .i64 (deskC d))∧Below w.heap.size w w':=by
 obtain ⟨⟨a1,k1,rfl⟩,⟨a2,k2,rfl⟩,a3,k3,rfl⟩:=ha.slices
 obtain ⟨w0,e0⟩:∃w0,w0=w.alloc (.cells #[.slice a1 d.eng.procs.length k1,.slice a2 d.eng.insts.length k2,.int .i64 d.eng.now,.slice a3 d.claims.length k3] 30):=⟨_,rfl⟩
 have hb:Below w.heap.size w w0:=by rw [e0];exact (Below.refl _ w).alloc (Nat.le_refl _) _
 have HC:=hid (implClaimsOn d _ _ _ w0 hs (ha.below hb) (hr.below hb hr.lt))
 have HB:=hid hb
 clear ha hb hs hr
 go_enter Tryz.func57,Tryz.ntmps57
 go_wp2_with fail
 rw [←e0]
 clear e0
 refine HC.out.mono ?_
 rintro z w1 ⟨h,hb1⟩
 have HB1:=hid (HB.out.trans (hb1.mono HB.out.size))
 clear hb1 HC HB
 rcases h with ⟨h1,rfl⟩ | ⟨h1,M,rfl,h2,h3⟩
 ·clear h1
  go_wp2
  go_ret
  exact ⟨rfl,HB1.out⟩
 ·have H1:=hid h1
  clear h1 h2 h3
  go_wp2
  go_ret
  exact ⟨by rw [H1.out];rfl,HB1.out⟩
end Dk
end Go.Proofs.YtccklgopcjilcaaGreatDoor
/- The law's marks in rows of claims, from any number on, and whether they hold. -/
namespace Go.Proofs.YtccklgopcjilcaaGreatDoor
open Go.RowKit
set_option linter.unusedVariables false
namespace Cl
open Ex (hid)
open St (Amid)
def marked (k0:Int) (f:Nat→Value) (n:Nat):Prop:=∀j,j<n*3→f j=.int .i64 (k0+(j:Int))
theorem marked_step {w:World} {g m k:Nat} {k0:Int} {t:TypeId} {f:Nat→Value} (h:w.rowIs g t m f) (hm:marked k0 f k):
    ∃f',(((w.setCell ⟨g,k*3,none⟩ (.int .i64 (k0+3*(k:Int)))).setCell ⟨g,k*3+1,none⟩ (.int .i64 (k0+3*(k:Int)+1))).setCell ⟨g,k*3+2,none⟩ (.int .i64 (k0+3*(k:Int)+1+1))).rowIs g t m f'∧marked k0 f' (k+1):=by
 refine ⟨_,(((h.set (k*3) _).set (k*3+1) _).set (k*3+2) _),fun j hj=>?_⟩
 by_cases e2:j=k*3+2
 ·rw [if_pos e2,e2];congr 1;omega
 ·rw [if_neg e2]
  by_cases e1:j=k*3+1
  ·rw [if_pos e1,e1];congr 1;omega
  ·rw [if_neg e1]
   by_cases e0:j=k*3
   ·rw [if_pos e0,e0];congr 1;omega
   ·rw [if_neg e0];exact hm j (by omega)
set_option maxRecDepth 100000 in
set_option maxHeartbeats 2000000 in
theorem markRow (g n m cap:Nat) (k0:Int) (f:Nat→Value) (w:World) (hn:n≤1048576) (h0:0<k0) (hk0:k0≤17592186044416) (hm:n*3≤m) (h:w.rowIs g 143 m f):
    Calls Tryz.prog 91 #[.slice (some ⟨g,0,none⟩) n cap,.int .i64 k0] w fun e w'=>e=.returned (.int .i64 (k0+3*(n:Int)))∧(∃f',w'.rowIs g 143 m f'∧marked k0 f' n)∧w.grownBy w' (some g):=by
 have HO:=hid h
 clear h
 go_enter Tryz.func91,Tryz.ntmps91
 go_wp2
 go_loopw [1,5] (fun q i wr=>∃(k:Nat) (f':Nat→Value),i=.int .i64 k∧q=.int .i64 (k0+3*(k:Int))∧k≤n∧Hid (wr.rowIs g 143 m f')∧Hid (marked k0 f' k)∧Hid (w.grownBy wr (some g))) (fun _ i _=>n - (intOf i).toNat)
 case atStart=>exact ⟨0,f,rfl,by simp,Nat.zero_le _,HO,hid (fun j hj=>by omega),hid (Ints.grown_refl _ _)⟩
 case round=>
  obtain ⟨k,f',rfl,rfl,hk,HR,HF,HG⟩:=hrel
  by_cases hlt:k<n
  ·have q1:(k:Int)<(n:Int):=by omega
   have d0:=HR.out.cell (i:=k*3) (by omega)
   have f0:=HR.out.frozen (k*3)
   have d1:=HR.out.cell (i:=k*3+1) (by omega)
   have f1:=HR.out.frozen (k*3+1)
   have d2:=HR.out.cell (i:=k*3+2) (by omega)
   have f2:=HR.out.frozen (k*3+2)
   obtain ⟨f2',hR2,hF2⟩:=marked_step HR.out HF.out
   have HR2:=hid hR2
   have HF2:=hid hF2
   have HG2:=hid (Ints.grown_set (Ints.grown_set (Ints.grown_set HG.out (k*3) (.int .i64 (k0+3*(k:Int)))) (k*3+1) (.int .i64 (k0+3*(k:Int)+1))) (k*3+2) (.int .i64 (k0+3*(k:Int)+1+1)))
   clear hR2 hF2
   go_wp2
   exact ⟨⟨k+1,f2',by simp,by simp;omega,by omega,HR2,HF2,HG2⟩,by simp [intOf];omega⟩
  ·obtain rfl:k=n:=by omega
   go_wp2
   go_ret
   exact ⟨rfl,⟨f',HR.out,HF.out⟩,HG.out⟩
set_option maxRecDepth 100000 in
set_option maxHeartbeats 1000000 in
theorem markNil (cap:Nat) (k0:Int) (w:World):Calls Tryz.prog 91 #[.slice none 0 cap,.int .i64 k0] w fun e w'=>e=.returned (.int .i64 k0)∧w'=w:=by
 go_enter Tryz.func91,Tryz.ntmps91
 go_wp2
 go_loop [1,5] (fun q i=>i=.int .i64 0∧q=.int .i64 k0) (fun _ i=>0)
 case atStart=>exact ⟨rfl,rfl⟩
 case round=>
  obtain ⟨rfl,rfl⟩:=hrel
  go_wp2
  go_ret
  exact ⟨rfl,rfl⟩
theorem markOwn (B C:Nat) (v:Value) (n:Nat) (k0:Int) (w:World) (hn:n≤1048576) (h0:0<k0) (hk0:k0≤17592186044416) (h:Own w B C v n):
    Calls Tryz.prog 91 #[v,.int .i64 k0] w fun e w'=>e=.returned (.int .i64 (k0+3*(n:Int)))∧Amid w w' B C:=by
 obtain ⟨g,f,rfl,h1,h2,h3⟩:=h
 exact (markRow g n _ n k0 f w hn h0 hk0 (Nat.le_refl _) h3).mono (fun e w' ⟨e1,_,hg⟩=>⟨e1,hg.os,hg.tape,hg.output,hg.size,fun b hb ho=>hg.block b hb (fun e=>by cases e;omega)⟩)
def marksN (k0:Int) (n:Nat):List ClD:=(List.range n).map fun (i:Nat)=>⟨k0+3*(i:Int),k0+3*(i:Int)+1,k0+3*(i:Int)+1+1⟩
theorem marksN_len (k0:Int) (n:Nat):(marksN k0 n).length=n:=by simp [marksN]
theorem marksN_get {k0:Int} {n i:Nat} (h:i<(marksN k0 n).length):(marksN k0 n)[i]=⟨k0+3*(i:Int),k0+3*(i:Int)+1,k0+3*(i:Int)+1+1⟩:=by simp [marksN]
theorem at_marks {w:World} {B g n m cap:Nat} {k0:Int} {f:Nat→Value} (hB:B≤g) (h:w.rowIs g 143 m f) (hm:marked k0 f n) (hnm:n*3≤m) (hc:n≤cap) (hx:cap≤maxLen):At w B (.slice (some ⟨g,0,none⟩) n cap) (marksN k0 n):=by
 refine ⟨some ⟨g,0,none⟩,cap,by rw [marksN_len],by rw [marksN_len];exact hc,hx,.inr ⟨g,0,rfl,hB,h.lt,fun i hi=>?_⟩⟩
 rw [marksN_get hi]
 rw [marksN_len] at hi
 have c0:=h.cell (i:=i*3) (by omega)
 have c1:=h.cell (i:=i*3+1) (by omega)
 have c2:=h.cell (i:=i*3+2) (by omega)
 rw [hm _ (by omega)] at c0 c1 c2
 simp only [Nat.zero_add]
 refine ⟨c0.trans ?_,c1.trans ?_,c2.trans ?_⟩ <;> (congr 2;omega)
theorem row_of {w:World} {g cap:Nat} {t:TypeId} {cur:Array Value} (h:w.heap[g]?=some (.cells cur t (0,0))) (hs:cur.size=cap*3):w.rowIs g t (cap*3) (fun i=>cur.getD i undef):=
 ⟨cur,h,hs,fun i hi=>by simp [Array.getD,hs,hi]⟩
set_option maxRecDepth 100000 in
set_option maxHeartbeats 2000000 in
theorem markS (B:Nat) (v:Value) (n:Nat) (xs:List Value) (k0:Int) (w:World) (hn:n≤1048576) (h0:0<k0) (hk0:k0≤17592186044416) (h:w.ownsRow B 143 3 v n xs):
    Calls Tryz.prog 91 #[v,.int .i64 k0] w fun e w'=>e=.returned (.int .i64 (k0+3*(n:Int)))∧At w' B v (marksN k0 n)∧w.grownBy w' v.ownBlock:=by
 obtain ⟨hl,⟨rfl,h0⟩ | ⟨g,cap,cur,rfl,hbg,hg,hle,hm,hs,ht⟩⟩:=h
 ·refine (markNil 0 k0 w).mono ?_
  rintro e w1 ⟨rfl,rfl⟩
  rw [h0]
  exact ⟨by simp,⟨none,0,rfl,Nat.le_refl _,by unfold maxLen;omega,.inl rfl⟩,Ints.grown_refl _ _⟩
 ·refine (markRow g n (cap*3) cap k0 _ w hn (by assumption) hk0 (by omega) (row_of hg hs)).mono ?_
  rintro e w1 ⟨rfl,⟨f',h1,h2⟩,h3⟩
  exact ⟨rfl,at_marks hbg h1 h2 (by omega) hle hm,h3⟩
set_option maxRecDepth 100000 in
set_option maxHeartbeats 2000000 in
theorem heldS (B:Nat) (v:Value) (n:Nat) (k0:Int) (w:World) (hn:n≤1048576) (h0:0<k0) (hk0:k0≤17592186044416) (h:At w B v (marksN k0 n)):
    Calls Tryz.prog 139 #[v,.int .i64 k0] w fun e w'=>e=.returned (.int .i64 (k0+3*(n:Int)))∧w'=w:=by
 obtain ⟨a,cap,rfl⟩:=h.slice
 rw [marksN_len] at h ⊢
 have H1:=hid h
 clear h
 go_enter Tryz.func139,Tryz.ntmps139
 go_wp2
 go_loop [1,5] (fun q i=>∃k:Nat,i=.int .i64 k∧q=.int .i64 (k0+3*(k:Int))∧k≤n) (fun _ i=>n - (intOf i).toNat)
 case atStart=>exact ⟨0,rfl,by simp,Nat.zero_le _⟩
 case round=>
  obtain ⟨k,rfl,rfl,hk⟩:=hrel
  by_cases hlt:k<n
  ·obtain ⟨g,o,rfl,hg,c0,c1,c2⟩:=H1.out.at (i:=k) (by rw [marksN_len];exact hlt)
   rw [marksN_get] at c0 c1 c2
   have n0:((k0+3*(k:Int)) != (k0+3*(k:Int)))=false:=by simp
   have n1:((k0+3*(k:Int)+1) != (k0+3*(k:Int)+1))=false:=by simp
   have n2:((k0+3*(k:Int)+1+1) != (k0+3*(k:Int)+1+1))=false:=by simp
   have q1:(k:Int)<(n:Int):=by omega
   go_wp2
   exact ⟨⟨k+1,by simp,by simp;omega,by omega⟩,by simp [intOf];omega⟩
  ·obtain rfl:k=n:=by omega
   go_wp2
   go_ret
   exact ⟨rfl,rfl⟩
end Cl
end Go.Proofs.YtccklgopcjilcaaGreatDoor
/- Offers: rows of claims of one's own; comparison, marks and holds of an answer that is one. -/
namespace Go.Proofs.YtccklgopcjilcaaGreatDoor
open Go.RowKit Go.Deep
set_option linter.unusedVariables false
namespace Of
open Ex (hid)
open Cl (ClD marksN)
open Ch (blk_cell blk_lt new_blk new_at)
def cv (c:ClD):List Value:=[.int .i64 c.inst,.int .i64 c.step,.int .i64 c.user]
def cvals (xs:List ClD):List Value:=xs.flatMap cv
theorem cvals_snoc (xs:List ClD) (c:ClD):cvals (xs++[c])=cvals xs++cv c:=by simp [cvals]
theorem cvals_get:∀(xs:List ClD) (i c:Nat) (h:i<xs.length),c<3→(cvals xs)[i*3+c]?=(cv xs[i])[c]?
 | a :: r,0,c,_,hc=>by
  unfold cvals
  rw [List.flatMap_cons,Nat.zero_mul,Nat.zero_add,List.getElem?_append_left (by simp [cv];omega)]
  rfl
 | a :: r,i+1,c,h,hc=>by
  have hl:(cv a).length=3:=rfl
  unfold cvals
  rw [List.flatMap_cons,List.getElem?_append_right (by rw [hl];omega),hl,show (i+1)*3+c - 3=i*3+c by omega]
  simp only [List.getElem_cons_succ]
  exact cvals_get r i c (by simpa using h) hc
def COwn (w:World) (B:Nat) (v:Value) (xs:List ClD):Prop:=w.ownsRow B 143 3 v xs.length (cvals xs)
theorem COwn.nil (w:World) (B:Nat):COwn w B (.slice none 0 0) []:=World.ownsRow_nil _ _ _ _
theorem COwn.at' {w:World} {B:Nat} {v:Value} {xs:List ClD} (h:COwn w B v xs):Cl.At w B v xs:=by
 have h0:=h
 unfold COwn at h
 obtain ⟨hl,⟨rfl,e⟩ | ⟨g,cap,cur,rfl,hbg,hg,hle,hm,hs,ht⟩⟩:=h
 ·have e1:xs=[]:=List.eq_nil_of_length_eq_zero e
  subst e1
  exact ⟨none,0,rfl,Nat.le_refl _,Nat.zero_le _,.inl rfl⟩
 ·refine ⟨some ⟨g,0,none⟩,cap,rfl,hle,hm,.inr ⟨g,0,rfl,hbg,(Array.getElem?_eq_some_iff.1 hg).1,fun i hi=>?_⟩⟩
  have q:∀c,c<3→w.cell? ⟨g,i*3+c,none⟩=(cv xs[i])[c]?:=fun c hc=>by
   rw [←cvals_get xs i c hi hc]
   exact World.ownsRow.cellAt h0 (i*3+c) (by omega)
  rw [Nat.zero_add]
  exact ⟨q 0 (by omega),q 1 (by omega),q 2 (by omega)⟩
theorem COwn.slice {w:World} {B:Nat} {v:Value} {xs:List ClD} (h:COwn w B v xs):∃a k,v=.slice a xs.length k:=h.at'.slice
theorem COwn.kept {w w':World} {B:Nat} {v:Value} {xs:List ClD} (h:COwn w B v xs) (hb:∀b,v.ownBlock=some b→w'.heap[b]?=w.heap[b]?):COwn w' B v xs:=by
 unfold COwn at *
 obtain ⟨hl,h | ⟨g,cap,cur,rfl,hbg,hg,hle,hm,hs,ht⟩⟩:=h
 ·exact ⟨hl,.inl h⟩
 ·exact ⟨hl,.inr ⟨g,cap,cur,rfl,hbg,(hb g rfl).trans hg,hle,hm,hs,ht⟩⟩
theorem COwn.lt {w:World} {B:Nat} {v:Value} {xs:List ClD} (h:COwn w B v xs) {b:Nat} (e:v.ownBlock=some b):B≤b∧b<w.heap.size:=World.ownsRow.lt h b e
theorem COwn.below {w w':World} {B:Nat} {v:Value} {xs:List ClD} (h:COwn w B v xs) (hb:Below w.heap.size w w'):COwn w' B v xs:=h.kept (fun b e=>hb.block b (h.lt e).2)
theorem COwn.mono {w:World} {B B':Nat} {v:Value} {xs:List ClD} (h:COwn w B v xs) (hb:B'≤B):COwn w B' v xs:=by
 unfold COwn at *
 obtain ⟨hl,h | ⟨g,cap,cur,rfl,hbg,hg⟩⟩:=h
 ·exact ⟨hl,.inl h⟩
 ·exact ⟨hl,.inr ⟨g,cap,cur,rfl,Nat.le_trans hb hbg,hg⟩⟩
structure Keep (v:Value) (w w':World):Prop where
 os:w'.os=w.os
 tape:w'.tape=w.tape
 output:w'.output=w.output
 size:w.heap.size≤w'.heap.size
 block:∀b,b<w.heap.size→v.ownBlock≠some b→w'.heap[b]?=w.heap[b]?
theorem Keep.below {v:Value} {x w w':World} (h:Below x.heap.size x w) (ha:Keep v w w') (hs:∀b,v.ownBlock=some b→x.heap.size≤b):Below x.heap.size x w':=
 ⟨ha.os.trans h.os,ha.tape.trans h.tape,ha.output.trans h.output,Nat.le_trans h.size ha.size,fun b hb=>(ha.block b (Nat.lt_of_lt_of_le hb h.size) (fun e=>by have:=hs b e;omega)).trans (h.block b hb)⟩
end Of
end Go.Proofs.YtccklgopcjilcaaGreatDoor
/- The specification's ChartFault: what is wrong at a step. -/
namespace Go.Proofs.YtccklgopcjilcaaGreatDoor
open Go.RowKit Go.Deep
set_option linter.unusedVariables false
set_option linter.unusedSimpArgs false
namespace Ks
open Ex (inR evalCode evalVal vFault hid specIn)
open St (StepD)
open Ch (RunD)
open Pf
open Kc (fA fD fA_eq fD_eq cntK cntK_snoc cntK_le cntK_two wrongP within zeros fitsP chartC numC stateC kid_mem kid kid_in kind_in kids_seq kids_two kids_guard)
structure CP (w:World) (R:Nat) (v1 v2 v3:Value) (r:RunD):Prop where
 blk:w.heap[R]?=some (.cells #[.int .i64 r.status,.int .i64 r.now,v1,v2,v3] 112)
 row:Ch.At w 0 v1 v2 v3 r
theorem CP.below {w w':World} {R:Nat} {v1 v2 v3:Value} {r:RunD} (h:CP w R v1 v2 v3 r) (hb:Below w.heap.size w w'):CP w' R v1 v2 v3 r:=⟨(hb.block R (Ch.blk_lt h.blk)).trans h.blk,h.row.below hb⟩
structure CPo (w:World) (R O:Nat) (v1 v2 v3:Value) (r:RunD):Prop where
 c0:w.cell? ⟨R,O,none⟩=some (.int .i64 r.status)
 c1:w.cell? ⟨R,O+1,none⟩=some (.int .i64 r.now)
 c2:w.cell? ⟨R,O+2,none⟩=some v1
 c3:w.cell? ⟨R,O+3,none⟩=some v2
 c4:w.cell? ⟨R,O+4,none⟩=some v3
 row:Ch.At w 0 v1 v2 v3 r
theorem CPo.lt {w:World} {R O:Nat} {v1 v2 v3:Value} {r:RunD} (h:CPo w R O v1 v2 v3 r):R<w.heap.size:=Nu.lt_of_cell (a:=⟨R,O,none⟩) h.c0
theorem CPo.below {w w':World} {R O:Nat} {v1 v2 v3:Value} {r:RunD} (h:CPo w R O v1 v2 v3 r) (hb:Below w.heap.size w w'):CPo w' R O v1 v2 v3 r:=
 ⟨Ch.old_cell hb h.lt h.c0,Ch.old_cell hb h.lt h.c1,Ch.old_cell hb h.lt h.c2,Ch.old_cell hb h.lt h.c3,Ch.old_cell hb h.lt h.c4,h.row.below hb⟩
theorem CP.o {w:World} {R:Nat} {v1 v2 v3:Value} {r:RunD} (h:CP w R v1 v2 v3 r):CPo w R 0 v1 v2 v3 r:=
 ⟨Ch.blk_cell h.blk 0,Ch.blk_cell h.blk 1,Ch.blk_cell h.blk 2,Ch.blk_cell h.blk 3,Ch.blk_cell h.blk 4,h.row⟩
theorem kids_at {w:World} {v:Value} {B:Nat} {l:List Nat} (ho:w.ownsRow B 2 1 v l.length (Pt.kidVals l)) (h0:0<l.length):∃bk cap,v=.slice (some ⟨bk,0,none⟩) l.length cap∧bk<w.heap.size∧l.length≤cap∧cap≤maxLen∧∀i (h:i<l.length),w.cell? ⟨bk,i,none⟩=some (.int .i64 (l[i]:Int)):=by
 obtain ⟨_,⟨_,h1⟩ | ⟨g,cap,cur,rfl,hbg,hg,hle,hm,hs,hcur⟩⟩:=ho
 ·omega
 ·refine ⟨g,cap,rfl,(Array.getElem?_eq_some_iff.1 hg).1,by simpa using hle,hm,fun i hi=>?_⟩
  have h2:(Pt.kidVals l)[i]?=some (.int .i64 (l[i]:Int)):=by simp [Pt.kidVals,hi]
  rw [←hcur,List.getElem?_take,if_pos (by omega)] at h2
  simp only [World.cell?,hg,Option.isSome_none,Bool.false_eq_true,if_false]
  simpa using h2
theorem own_slice {w:World} {v:Value} {B:Nat} {l:List Nat} (ho:w.ownsRow B 2 1 v l.length (Pt.kidVals l)):∃a cap,v=.slice a l.length cap:=by
 obtain ⟨_,⟨h0,h1⟩ | ⟨g,cap,cur,rfl,_⟩⟩:=ho
 ·exact ⟨none,0,by rw [h0,h1]⟩
 ·exact ⟨_,_,rfl⟩
theorem own_below {w w':World} {v:Value} {B n:Nat} {l:List Value} (ho:w.ownsRow B 2 1 v n l) (hb:Below w.heap.size w w'):w'.ownsRow B 2 1 v n l:=by
 obtain ⟨h0,h | ⟨g,cap,cur,rfl,hbg,hg,hle,hm,hs,hcur⟩⟩:=ho
 ·exact ⟨h0,.inl h⟩
 ·exact ⟨h0,.inr ⟨g,cap,cur,rfl,hbg,(hb.block g (Array.getElem?_eq_some_iff.1 hg).1).trans hg,hle,hm,hs,hcur⟩⟩
theorem nu_cell {w:World} {a:Option Addr} {n c:Nat} {l:List Int} (h:Nu.At w 0 (.slice a n c) l) (h0:0<l.length):∃g o,a=some ⟨g,o,none⟩∧∀i (hi:i<l.length),w.cell? ⟨g,o+i,none⟩=some (.int .i64 l[i]):=by
 obtain ⟨g,o,rfl,_,_⟩:=h.at h0
 refine ⟨g,o,rfl,fun i hi=>?_⟩
 obtain ⟨g',o',e,_,hx⟩:=h.at hi
 cases e
 exact hx
set_option maxRecDepth 100000 in
set_option maxHeartbeats 400000 in
theorem specTime (x:Int) (w:World):Calls Tryz.prog 155 #[.int .i64 x] w fun e w'=>e=.returned (.bool (inR x 0 1000000))∧w'=w:=by
 have HI:=hid (specIn x 0 1000000 w)
 go_enter Tryz.func155,Tryz.ntmps155
 go_wp2_with (go_at_call 118;refine HI.out.mono ?_;rintro e w2 ⟨rfl,hw2⟩;replace hw2:=hw2.symm;subst hw2)
 go_ret
 exact ⟨rfl,rfl⟩
set_option maxRecDepth 100000 in
set_option maxHeartbeats 16000000 in
theorem specWrong (B:Nat) (ss:List StepD) (v:Value) (k R O:Nat) (r:RunD) (v1 v2 v3:Value) (w:World) (hp:pFault ss=0) (hk:k<ss.length) (ha:St.At w B v ss) (hc:CPo w R O v1 v2 v3 r) (hlm:r.marks.length=ss.length) (hld:r.dues.length=ss.length):
    Calls Tryz.prog 189 #[v,.pointer (some ⟨R,O,none⟩),.int .i64 (k:Int)] w fun e w'=>e=.returned (.bool (wrongP ss (fA r) (fD r) k))∧Below w.heap.size w w':=by
 have hl:ss.length≤24:=by have:=(of_p hp).1;omega
 obtain ⟨a,cap,rfl⟩:=ha.slice
 obtain ⟨a1,c1,rfl⟩:=hc.row.vars.slice
 obtain ⟨a2,c2,rfl⟩:=hc.row.marks.slice
 obtain ⟨a3,c3,rfl⟩:=hc.row.dues.slice
 have HKD:=hid (specKids B ss _ k w (by omega) ha)
 have HA:=hid ha
 have HC:=hid hc
 have HLM:=hid hlm
 have HLD:=hid hld
 have HP:=hid hp
 have HV:Hid (wrongP ss (fA r) (fD r) k=if fA r k≠1 then decide (0<cntK (fA r) (kidsL ss k) 1+cntK (fA r) (kidsL ss k) 2) || (fD r k != 0) else if ss[k].kind=1∨ss[k].kind=3 then (cntK (fA r) (kidsL ss k) 1 != 1) || decide (0<cntK (fA r) (kidsL ss k) 2) || (fD r k != 0) else if ss[k].kind=4 then decide (cntK (fA r) (kidsL ss k) 1<1) || (cntK (fA r) (kidsL ss k) 1+cntK (fA r) (kidsL ss k) 2 != (kidsL ss k).length) || (fD r k != 0) else if ss[k].kind=8 then (cntK (fA r) (kidsL ss k) 1 != 1) || decide (0<cntK (fA r) (kidsL ss k) 2) || ((fD r k != 0) != (fA r (kid ss k 0)==1)) else if ss[k].kind=6 then !(fD r k != 0) else if ss[k].kind=7 then true else (fD r k != 0)):=hid (by unfold wrongP;rw [PJ_eq hk])
 have HKI:=hid (kind_in hp hk)
 have HG:=hid (kids_guard hp hk)
 rw [PJ_eq hk] at HKI HG
 have hlen:(kidsL ss k).length≤24:=by have:=kidsN_le ss ss.length k;unfold kidsL;omega
 have HKM:Hid (∀x∈kidsL ss k,x<ss.length):=hid (fun x hx=>(kid_mem.1 hx).1)
 have HK0:Hid (∀(h:0<(kidsL ss k).length),kid ss k 0=(kidsL ss k)[0]):=hid (fun h=>by unfold kid;rw [List.getD_eq_getElem?_getD,List.getElem?_eq_getElem h];rfl)
 clear ha hc hlm hld hp
 generalize wrongP ss (fA r) (fD r) k=res at *
 generalize kid ss k 0=k0 at *
 go_enter Tryz.func189,Tryz.ntmps189
 go_wp2_with fail
 refine HKD.out.mono ?_
 rintro e w1 ⟨⟨u,rfl,ho⟩,hb1⟩
 obtain ⟨au,cu,rfl⟩:=own_slice ho
 have HO:=hid ho
 have HB1:=hid hb1
 clear ho hb1 HKD
 generalize kidsL ss k=ks at *
 go_wp2
 go_loopw [8,9,10] (fun x y z wr=>∃i on ov:Nat,z=.int .i64 i∧x=.int .i64 on∧y=.int .i64 ov∧i≤ks.length∧on≤i∧ov≤i∧Hid (on=cntK (fA r) (ks.take i) 1∧ov=cntK (fA r) (ks.take i) 2)∧Hid (Below w1.heap.size w1 wr)) (fun _ _ z _=>ks.length - (intOf z).toNat)
 case atStart=>exact ⟨0,0,0,rfl,rfl,rfl,Nat.zero_le _,Nat.le_refl _,Nat.le_refl _,hid ⟨rfl,rfl⟩,hid (Below.refl _ _)⟩
 case round=>
  obtain ⟨i,on,ov,rfl,rfl,rfl,hi,hon,hov,HM,HBR⟩:=hrel
  have HBW:=hid (HB1.out.trans (HBR.out.mono HB1.out.size))
  have hC:=HC.out.below HBW.out
  have m3:wr.cell? ⟨R,O+3,none⟩=some (.slice a2 r.marks.length c2):=hC.c3
  by_cases hlt:i<ks.length
  ·obtain ⟨bk,cap',e,hbk,_,_,hcell⟩:=kids_at (own_below HO.out HBR.out) (by omega)
   cases e
   have n1:=hcell i hlt
   have hx:=HKM.out _ (List.getElem_mem hlt)
   have hxm:ks[i]<r.marks.length:=by rw [HLM.out];exact hx
   obtain ⟨g,o,rfl,hac⟩:=nu_cell hC.row.marks (by omega)
   have n2:=hac _ hxm
   rw [←fA_eq hxm] at n2
   have q1:(i:Int)<(ks.length:Int):=by omega
   have q2:(0:Int)≤(ks[i]:Int):=by omega
   have q3:(ks[i]:Int)<(r.marks.length:Int):=by omega
   have HN:Hid (cntK (fA r) (ks.take (i+1)) 1=cntK (fA r) (ks.take i) 1+(if fA r ks[i]=1 then 1 else 0)∧cntK (fA r) (ks.take (i+1)) 2=cntK (fA r) (ks.take i) 2+(if fA r ks[i]=2 then 1 else 0)):=hid (by rw [List.take_succ_eq_append_getElem hlt,cntK_snoc,cntK_snoc];exact ⟨rfl,rfl⟩)
   have hBd:Hid (Below w1.heap.size w1 wr.drew):=hid HBR.out.drew
   clear hcell hac hC hx hxm
   generalize ks[i]=x at *
   by_cases h1:fA r x=1
   ·have b1:(fA r x==1)=true:=by simp [h1]
    have HX:Hid (on+1=cntK (fA r) (ks.take (i+1)) 1∧ov=cntK (fA r) (ks.take (i+1)) 2):=hid (by rw [HN.out.1,HN.out.2,if_pos h1,if_neg (by omega)];exact ⟨by rw [HM.out.1],HM.out.2⟩)
    clear h1 HN HM
    go_wp2
    go_region
    go_wp2
    exact ⟨⟨i+1,on+1,ov,by simp,by simp,rfl,by omega,by omega,by omega,HX,hBd⟩,by simp [intOf];omega⟩
   ·have b1:(fA r x==1)=false:=by simp [h1]
    by_cases h2:fA r x=2
    ·have b2:(fA r x==2)=true:=by simp [h2]
     have HX:Hid (on=cntK (fA r) (ks.take (i+1)) 1∧ov+1=cntK (fA r) (ks.take (i+1)) 2):=hid (by rw [HN.out.1,HN.out.2,if_neg h1,if_pos h2];exact ⟨HM.out.1,by rw [HM.out.2]⟩)
     clear h1 h2 HN HM
     go_wp2
     go_region
     go_wp2
     exact ⟨⟨i+1,on,ov+1,by simp,rfl,by simp,by omega,by omega,by omega,HX,hBd⟩,by simp [intOf];omega⟩
    ·have b2:(fA r x==2)=false:=by simp [h2]
     have HX:Hid (on=cntK (fA r) (ks.take (i+1)) 1∧ov=cntK (fA r) (ks.take (i+1)) 2):=hid (by rw [HN.out.1,HN.out.2,if_neg h1,if_neg h2];exact HM.out)
     clear h1 h2 HN HM
     go_wp2
     go_region
     go_wp2
     exact ⟨⟨i+1,on,ov,by simp,rfl,rfl,by omega,by omega,by omega,HX,hBd⟩,by simp [intOf];omega⟩
  ·have hie:i=ks.length:=by omega
   have HM2:Hid (on=cntK (fA r) ks 1∧ov=cntK (fA r) ks 2):=hid (by have:=HM.out;rwa [List.take_of_length_le (by omega)] at this)
   rw [←HM2.out.1,←HM2.out.2] at HV
   have q1:¬(i:Int)<(ks.length:Int):=by omega
   have hkm:k<r.marks.length:=by rw [HLM.out];exact hk
   have hkd:k<r.dues.length:=by rw [HLD.out];exact hk
   obtain ⟨g2,o2,rfl,hac⟩:=nu_cell hC.row.marks (by omega)
   obtain ⟨g3,o3,rfl,hdc⟩:=nu_cell hC.row.dues (by omega)
   have n2:=hac _ hkm
   have n3:=hdc _ hkd
   rw [←fA_eq hkm] at n2
   rw [←fD_eq hkd] at n3
   have m4:wr.cell? ⟨R,O+4,none⟩=some (.slice (some ⟨g3,o3,none⟩) r.dues.length c3):=hC.c4
   obtain ⟨g,o,vc,ve,rfl,hg,p0,p1,p2,p3,p4,p5,_⟩:=(HA.out.below HBW.out).at hk
   have q2:(k:Int)<(r.marks.length:Int):=by omega
   have q3:(k:Int)<(r.dues.length:Int):=by omega
   have q4:(k:Int)<(ss.length:Int):=by omega
   have HGK:Hid (ss[k].kind=8→∃bk cap',(Value.slice au ks.length cu)=.slice (some ⟨bk,0,none⟩) ks.length cap'∧wr.cell? ⟨bk,0,none⟩=some (.int .i64 (k0:Int))∧wr.cell? ⟨g2,o2+k0,none⟩=some (.int .i64 (fA r k0))∧k0<r.marks.length):=hid (fun h8=>by
    have h2:=HG.out h8
    obtain ⟨bk,cap',e,_,_,_,hcell⟩:=kids_at (own_below HO.out HBR.out) (by omega)
    have h0:=hcell 0 (by omega)
    rw [←HK0.out (by omega)] at h0
    have hk0:k0<r.marks.length:=by rw [HLM.out,HK0.out (by omega)];exact HKM.out _ (List.getElem_mem _)
    have h4:=hac _ hk0
    rw [←fA_eq hk0] at h4
    exact ⟨bk,cap',e,h0,h4,hk0⟩)
   clear hac hdc hC HM HM2 p1 p2 p3 p4 p5 hkm hkd HO HKM HK0 HC HA
   generalize fA r k=ak at *
   generalize fD r k=dk at *
   generalize ss[k].kind=kd at *
   by_cases h1:ak=1
   ·have b1:(ak != 1)=false:=by simp [h1]
    rw [if_neg (by simp [h1])] at HV
    clear h1
    have hc8:kd=1∨kd=2∨kd=3∨kd=4∨kd=5∨kd=6∨kd=7∨kd=8:=by have:=HKI.out;omega
    clear HKI
    rcases hc8 with hkd | hkd | hkd | hkd | hkd | hkd | hkd | hkd
    ·subst hkd
     rw [if_pos (by decide)] at HV
     clear HGK
     by_cases h5:on=1
     ·have b5:((on:Int) != 1)=false:=by simp [h5]
      by_cases h6:0<ov
      ·have b6:(0:Int)<(ov:Int):=by omega
       have HX:Hid (res=true):=hid (by rw [HV.out,decide_eq_true h6];simp)
       clear HV h5 h6
       go_wp2
       go_ret
       exact ⟨by rw [HX.out];rfl,HBW.out⟩
      ·have b6:¬(0:Int)<(ov:Int):=by omega
       have HX:Hid (res=(dk != 0)):=hid (by rw [HV.out,decide_eq_false h6,h5];rfl)
       clear HV h5 h6
       go_wp2
       go_ret
       exact ⟨by rw [HX.out];rfl,HBW.out⟩
     ·have b5:((on:Int) != 1)=true:=bne_iff_ne.2 (by omega)
      have HX:Hid (res=true):=hid (by rw [HV.out,bne_iff_ne.2 h5];rfl)
      clear HV h5
      go_wp2
      go_ret
      exact ⟨by rw [HX.out];rfl,HBW.out⟩
    ·subst hkd
     have HX:Hid (res=(dk != 0)):=hid (by rw [HV.out];simp)
     clear HV HGK
     go_wp2
     go_ret
     exact ⟨by rw [HX.out];rfl,HBW.out⟩
    ·subst hkd
     rw [if_pos (by decide)] at HV
     clear HGK
     by_cases h5:on=1
     ·have b5:((on:Int) != 1)=false:=by simp [h5]
      by_cases h6:0<ov
      ·have b6:(0:Int)<(ov:Int):=by omega
       have HX:Hid (res=true):=hid (by rw [HV.out,decide_eq_true h6];simp)
       clear HV h5 h6
       go_wp2
       go_ret
       exact ⟨by rw [HX.out];rfl,HBW.out⟩
      ·have b6:¬(0:Int)<(ov:Int):=by omega
       have HX:Hid (res=(dk != 0)):=hid (by rw [HV.out,decide_eq_false h6,h5];rfl)
       clear HV h5 h6
       go_wp2
       go_ret
       exact ⟨by rw [HX.out];rfl,HBW.out⟩
     ·have b5:((on:Int) != 1)=true:=bne_iff_ne.2 (by omega)
      have HX:Hid (res=true):=hid (by rw [HV.out,bne_iff_ne.2 h5];rfl)
      clear HV h5
      go_wp2
      go_ret
      exact ⟨by rw [HX.out];rfl,HBW.out⟩
    ·subst hkd
     rw [if_neg (by decide),if_pos rfl] at HV
     clear HGK
     by_cases h5:on<1
     ·have b5:(on:Int)<1:=by omega
      have HX:Hid (res=true):=hid (by rw [HV.out,decide_eq_true h5];rfl)
      clear HV h5
      go_wp2
      go_ret
      exact ⟨by rw [HX.out];rfl,HBW.out⟩
     ·have b5:¬(on:Int)<1:=by omega
      by_cases h6:on+ov=ks.length
      ·have b6:(((on:Int)+(ov:Int)) != (ks.length:Int))=false:=by simp;omega
       have HX:Hid (res=(dk != 0)):=hid (by rw [HV.out,decide_eq_false h5,bne_eq_false_iff_eq.2 h6];rfl)
       clear HV h5 h6
       go_wp2
       go_ret
       exact ⟨by rw [HX.out];rfl,HBW.out⟩
      ·have b6:(((on:Int)+(ov:Int)) != (ks.length:Int))=true:=bne_iff_ne.2 (by omega)
       have HX:Hid (res=true):=hid (by rw [HV.out,bne_iff_ne.2 h6];simp)
       clear HV h5 h6
       go_wp2
       go_ret
       exact ⟨by rw [HX.out];rfl,HBW.out⟩
    ·subst hkd
     have HX:Hid (res=(dk != 0)):=hid (by rw [HV.out];simp)
     clear HV HGK
     go_wp2
     go_ret
     exact ⟨by rw [HX.out];rfl,HBW.out⟩
    ·subst hkd
     have HX:Hid (res=(!(dk != 0))):=hid (by rw [HV.out];simp)
     clear HV HGK
     go_wp2
     go_ret
     exact ⟨by rw [HX.out];rfl,HBW.out⟩
    ·subst hkd
     have HX:Hid (res=true):=hid (by rw [HV.out];simp)
     clear HV HGK
     go_wp2
     go_ret
     exact ⟨by rw [HX.out];rfl,HBW.out⟩
    ·subst hkd
     rw [if_neg (by decide),if_neg (by decide),if_pos rfl] at HV
     obtain ⟨bk,cap2,e,z1,z2,z3⟩:=HGK.out rfl
     cases e
     have z5:(0:Int)<(ks.length:Int):=by have:=HG.out rfl;omega
     clear HGK HG
     have z4:(k0:Int)<(r.marks.length:Int):=by omega
     by_cases h5:on=1
     ·have b5:((on:Int) != 1)=false:=by simp [h5]
      have b5e:((on:Int)==1)=true:=by simp [h5]
      by_cases h6:0<ov
      ·have b6:decide ((0:Int)<(ov:Int))=true:=decide_eq_true (by omega)
       have b6n:decide (0<ov)=true:=decide_eq_true h6
       have HX:Hid (res=true):=hid (by rw [HV.out,decide_eq_true h6];simp)
       clear HV h5 h6
       go_wp2
       go_quiet (fail)
       go_wp2
       go_ret
       exact ⟨by rw [HX.out];rfl,Ints.below_drewN HBW.out nq⟩
      ·have b6:decide ((0:Int)<(ov:Int))=false:=decide_eq_false (by omega)
       have b6n:decide (0<ov)=false:=decide_eq_false h6
       have HX:Hid (res=((dk != 0) != (fA r k0==1))):=hid (by rw [HV.out,decide_eq_false h6,h5];rfl)
       clear HV h5 h6
       go_wp2
       go_quiet (fail)
       go_wp2
       go_ret
       exact ⟨by rw [HX.out];rfl,Ints.below_drewN HBW.out nq⟩
     ·have b5:((on:Int) != 1)=true:=bne_iff_ne.2 (by omega)
      have b5e:((on:Int)==1)=false:=beq_eq_false_iff_ne.2 (by omega)
      have HX:Hid (res=true):=hid (by rw [HV.out,bne_iff_ne.2 h5];rfl)
      clear HV h5
      go_wp2
      go_quiet (fail)
      go_wp2
      go_ret
      exact ⟨by rw [HX.out];rfl,Ints.below_drewN HBW.out nq⟩
   ·have b1:(ak != 1)=true:=bne_iff_ne.2 h1
    rw [if_pos h1] at HV
    clear h1 HGK
    by_cases h0:0<on+ov
    ·have q5:(0:Int)<(on:Int)+(ov:Int):=by omega
     have HX:Hid (res=true):=hid (by rw [HV.out,decide_eq_true h0];rfl)
     clear HV h0
     go_wp2
     go_ret
     exact ⟨by rw [HX.out];rfl,HBW.out⟩
    ·have q5:¬(0:Int)<(on:Int)+(ov:Int):=by omega
     have HX:Hid (res=(dk != 0)):=hid (by rw [HV.out,decide_eq_false h0];rfl)
     clear HV h0
     go_wp2
     go_ret
     exact ⟨by rw [HX.out];rfl,HBW.out⟩
end Ks
end Go.Proofs.YtccklgopcjilcaaGreatDoor
