/- Laid together: EpB, EpC, EiA. -/
import Derived.Test.YtccklgopcjilcaaGreatDoorJCT11
import Derived.Test.YtccklgopcjilcaaGreatDoorJCT8
/- The law's copies of processes, and what they own. -/
namespace Go.Proofs.YtccklgopcjilcaaGreatDoor
open Go.RowKit Go.Deep
set_option linter.unusedVariables false
namespace Ep
open Ex (hid)
open St (StepD old_cell old_free setB)
theorem infoR:(Tryz.prog.info? 89).map (fun i=>(i.zero,i.size,i.bytes))=some (some (Value.agg #[.slice none 0 0]),1,24):=by kernel_rfl
theorem own1Kept {w w':World} {B C:Nat} {v:Value} {n:Nat} {mc me:Nat→Nat} (h:St.Own w B C v n mc me) (hb:∀g,B≤g→g<C→g<w.heap.size→w'.heap[g]?=w.heap[g]?):St.Own w' B C v n mc me:=h.kept hb
theorem own1Mono {w:World} {B B' C C':Nat} {v:Value} {n:Nat} {mc me:Nat→Nat} (h:St.Own w B C v n mc me) (hB:B'≤B) (hC:C≤C'):St.Own w B' C' v n mc me:=by
 obtain ⟨g,f,rfl,h1,h2,h3,h4⟩:=h
 exact ⟨g,f,rfl,Nat.le_trans hB h1,Nat.lt_of_lt_of_le h2 hC,h3,fun j hj=>⟨St.ownMono (h4 j hj).1 (Nat.le_refl _) hC,St.ownMono (h4 j hj).2 (Nat.le_refl _) hC⟩⟩
set_option maxRecDepth 100000 in
set_option maxHeartbeats 2000000 in
theorem toOne (B:Nat) (x:List StepD) (v1:Value) (w:World) (hl:Small1 1048576 x) (hc:St.At w B v1 x):
    Calls Tryz.prog 49 #[.agg #[v1]] w fun e w'=>∃u1,e=.returned (.agg #[u1])∧St.At w' w.heap.size u1 x∧St.Own w' w.heap.size w'.heap.size u1 x.length (St.lenC x) (St.lenE x)∧Below w.heap.size w w':=by
 obtain ⟨a,cap,rfl⟩:=hc.slice
 have HC:=hid hc
 have HL:=hid hl
 clear hc hl
 go_enter Tryz.func49,Tryz.ntmps49
 go_wp2_with fail
 refine (St.toS2 B x _ _ HL.out (HC.out.below ?hB)).mono ?_
 case hB=>exact (((Below.refl _ w).alloc (Nat.le_refl _) _).alloc (by simp) _).alloc (by simp;omega) _
 rintro e w1 ⟨uc,rfl,hu,hown,hb1⟩
 obtain ⟨a3,cap3,rfl⟩:=hu.slice
 simp only [World.size_alloc] at hb1 hu hown
 have HU:=hid hu
 have HOW:=hid hown
 clear hu hown
 have hz:w.heap.size+1+1+1≤w1.heap.size:=by have:=hb1.size;simpa using this
 have l1:w.heap.size+1<w1.heap.size:=by omega
 have l2:w.heap.size+1+1<w1.heap.size:=by omega
 have c2:=old_cell hb1 (b:=w.heap.size+1+1) (o:=0) (v:=.slice none 0 0) (by omega) (by go_simp)
 have d2:=old_cell hb1 (b:=w.heap.size+1) (o:=0) (v:=.slice none 0 0) (by omega) (by go_simp)
 have f2:=old_free hb1 (b:=w.heap.size+1+1) (o:=0) (by omega) (by go_simp)
 have e2:=old_free hb1 (b:=w.heap.size+1) (o:=0) (by omega) (by go_simp)
 have hB0:Below w.heap.size w w1:=((((Below.refl _ w).alloc (Nat.le_refl _) _).alloc (by simp) _).alloc (by simp;omega) _).trans (hb1.mono (by omega))
 have HB0:=hid hB0
 clear hb1 hB0
 go_wp2
 refine bodyPost_ret (v:=.agg #[.slice a3 x.length cap3]) (by simp [results,Tryz.results49,go_sem,d2]) rfl ⟨_,rfl,?_,?_,?_⟩
 ·exact ((HU.out.setBelow (by omega) _).setBelow (by omega) _).mono (by omega)
 ·exact own1Mono (own1Kept HOW.out (fun g hg _ _=>by rw [Below.heap_setCell _ _ _ _ (by dsimp only;omega),Below.heap_setCell _ _ _ _ (by dsimp only;omega)])) (by omega) (by simp [World.setCell])
 ·exact setB (setB HB0.out (by omega) _) (by omega) _
structure Iv (g C n:Nat) (lo hi:Nat→Nat):Prop where
 base:∀j,j<n→g+1≤lo j∧hi j≤C
 sep:∀i j,i<j→j<n→hi i≤lo j
theorem Iv.mono {g C C' n:Nat} {lo hi:Nat→Nat} (h:Iv g C n lo hi) (hC:C≤C'):Iv g C' n lo hi:=⟨fun j hj=>⟨(h.base j hj).1,Nat.le_trans (h.base j hj).2 hC⟩,h.sep⟩
theorem Iv.nil (g C:Nat) (lo hi:Nat→Nat):Iv g C 0 lo hi:=⟨fun j h=>by omega,fun i j h h2=>by omega⟩
theorem Iv.step {g C n L H:Nat} {lo hi:Nat→Nat} (h:Iv g C n lo hi) (h1:C≤L) (h2:g+1≤L) (h3:L≤H):Iv g H (n+1) (fun i=>if i=n then L else lo i) (fun i=>if i=n then H else hi i):=by
 refine ⟨fun j hj=>?_,fun i j hij hj=>?_⟩
 ·by_cases e:j=n
  ·simp only [e,if_true];omega
  ·have:=h.base j (by omega);simp only [e,if_false];omega
 ·have e1:¬i=n:=by omega
  by_cases e:j=n
  ·have:=h.base i (by omega);simp only [e,e1,if_true,if_false];omega
  ·have:=h.sep i j hij (by omega);simp only [e,e1,if_false];omega
def Own (w:World) (B C:Nat) (v:Value) (n:Nat) (ss:List (List StepD)):Prop:=∃g f,v=.slice (some ⟨g,0,none⟩) n n∧B≤g∧g<C∧w.rowIs g 89 (n*1) f∧∃lo hi,Iv g C ss.length lo hi∧∀j (h:j<ss.length),St.Own w (lo j) (hi j) (f (j)) ss[j].length (St.lenC ss[j]) (St.lenE ss[j])
theorem Own.kept {w w':World} {B C n:Nat} {v:Value} {ss:List (List StepD)} (h:Own w B C v n ss) (hb:∀g,B≤g→g<C→g<w.heap.size→w'.heap[g]?=w.heap[g]?):Own w' B C v n ss:=by
 obtain ⟨g,f,rfl,h1,h2,h3,lo,hi,hv,h4⟩:=h
 exact ⟨g,f,rfl,h1,h2,h3.of_block (hb g h1 h2 h3.lt),lo,hi,hv,fun j hj=>own1Kept (h4 j hj) (fun b hb1 hb2 hb3=>hb b (by have:=hv.base j hj;omega) (by have:=hv.base j hj;omega) hb3)⟩
theorem Own.below {w w':World} {B C n:Nat} {v:Value} {ss:List (List StepD)} (h:Own w B C v n ss) (hb:Below w.heap.size w w'):Own w' B C v n ss:=h.kept (fun g _ _ hg=>hb.block g hg)
theorem Own.mono {w:World} {B B' C C' n:Nat} {v:Value} {ss:List (List StepD)} (h:Own w B C v n ss) (hB:B'≤B) (hC:C≤C'):Own w B' C' v n ss:=by
 obtain ⟨g,f,rfl,h1,h2,h3,lo,hi,hv,h4⟩:=h
 exact ⟨g,f,rfl,Nat.le_trans hB h1,Nat.lt_of_lt_of_le h2 hC,h3,lo,hi,hv.mono hC,h4⟩
theorem Own.setBelow {w:World} {B C n b o:Nat} {v:Value} {ss:List (List StepD)} (h:Own w B C v n ss) (hb:b<B) (x:Value):Own (w.setCell ⟨b,o,none⟩ x) B C v n ss:=
 h.kept (fun g hg _ _=>Below.heap_setCell _ _ _ _ (by dsimp only;omega))
def cellsOk (w:World) (B:Nat) (f:Nat→Value) (j:Nat) (s:(List StepD)):Prop:=True∧St.At w B (f (j)) s
theorem row_recs {w:World} {g:Nat} {t:TypeId} {f:Nat→Value} {ss:List (List StepD)} (h:w.rowIs g t (ss.length*1) f)
    (hf:∀j (hj:j<ss.length),cellsOk w (g+1) f j ss[j]) (cap:Nat) (hc:ss.length≤cap) (hm:cap≤maxLen):At w g (.slice (some ⟨g,0,none⟩) ss.length cap) ss:=by
 refine ⟨_,_,rfl,hc,hm,.inr ⟨g,0,rfl,Nat.le_refl _,h.lt,fun i hi=>?_⟩⟩
 obtain ⟨_,hy⟩:=hf i hi
 refine ⟨(f (i)),by rw [Nat.zero_add];exact h.cell (by omega),hy.mono (by omega)⟩
def putR (w:World) (g k:Nat) (s:(List StepD)) (v1:Value):World:=w.setCell ⟨g,k,none⟩ v1
theorem setR {w:World} {g:Nat} {t:TypeId} {n k:Nat} {f:Nat→Value} {v1:Value} {s:(List StepD)} (h:w.rowIs g t n f):
    (putR w g k s v1).rowIs g t n (fun i=>if i=k then v1 else f i):=
 h.set (k) _
theorem keep_putR {w:World} {B g k:Nat} {s:(List StepD)} {v1:Value} (hg:g<B):∀b,B≤b→(putR w g k s v1).heap[b]?=w.heap[b]?:=fun b hb=>by
 unfold putR
 repeat rw [Below.heap_setCell _ _ _ _ (by dsimp only;omega)]
theorem size_putR {w:World} {g k:Nat} {s:(List StepD)} {v1:Value}:(putR w g k s v1).heap.size=w.heap.size:=by simp [putR,World.setCell]
theorem below_putR {w W:World} {B g k:Nat} {s:(List StepD)} {v1:Value} (h:Below B W w) (hg:B≤g):Below B W (putR w g k s v1):=
 setB h hg _
theorem fR_old {k j:Nat} {f:Nat→Value} {v1:Value} {s:(List StepD)} {c:Nat} (hj:j≠k) (hc:c<1):
    (fun i=>if i=k then v1 else f i) (j)=f (j):=by
 simp only [show ¬j=k from hj,if_false]
theorem stepR {w:World} {g:Nat} {t:TypeId} {k L H:Nat} {lo hi:Nat→Nat} {f:Nat→Value} {v1:Value} {ss:List (List StepD)} (h:w.rowIs g t (ss.length*1) f) (hk:k<ss.length)
    (hf:∀j (hj:j<ss.length),j<k→cellsOk w (g+1) f j ss[j]) (hl:∀j,j<k→g+1≤lo j) (hL:g+1≤L) (hw:∀j (hj:j<ss.length),j<k→St.Own w (lo j) (hi j) (f (j)) ss[j].length (St.lenC ss[j]) (St.lenE ss[j]))
    (hc:St.At w (g+1) v1 ss[k]) (oc:St.Own w L H v1 ss[k].length (St.lenC ss[k]) (St.lenE ss[k])):
    ∃f',(putR w g k ss[k] v1).rowIs g t (ss.length*1) f'∧(∀j (hj:j<ss.length),j<k+1→cellsOk (putR w g k ss[k] v1) (g+1) f' j ss[j])∧
     (∀j (hj:j<ss.length),j<k+1→St.Own (putR w g k ss[k] v1) (if j=k then L else lo j) (if j=k then H else hi j) (f' (j)) ss[j].length (St.lenC ss[j]) (St.lenE ss[j])):=by
 have hkp:∀b,g+1≤b→(putR w g k ss[k] v1).heap[b]?=w.heap[b]?:=keep_putR (by omega)
 refine ⟨_,setR (k:=k) (v1:=v1) (s:=ss[k]) h,fun j hj hjk=>?_,fun j hj hjk=>?_⟩
 ·by_cases e:j=k
  ·subst e
   exact ⟨trivial,by simpa using hc.kept (Nat.le_of_eq size_putR.symm) (fun b hb _=>hkp b hb)⟩
  ·obtain ⟨q0,qx⟩:=hf j hj (by omega)
   refine ⟨trivial,?_⟩
   have:=qx.kept (w':=putR w g k ss[k] v1) (Nat.le_of_eq size_putR.symm) (fun b hb _=>hkp b hb)
   rw [←fR_old (k:=k) (v1:=v1) (s:=ss[k]) (f:=f) (c:=0) e (by omega)] at this
   exact this
 ·by_cases e:j=k
  ·subst e
   simpa using own1Kept oc (fun b hb _ _=>hkp b (by omega))
  ·have:=own1Kept (hw j hj (by omega)) (fun b hb _ _=>hkp b (by have:=hl j (by omega);omega))
   rw [←fR_old (k:=k) (v1:=v1) (s:=ss[k]) (f:=f) (c:=0) e (by omega)] at this
   rw [if_neg e,if_neg e]
   exact this
set_option maxRecDepth 100000 in
set_option maxHeartbeats 2000000 in
theorem toS2 (B:Nat) (ss:List (List StepD)) (v:Value) (w:World) (hl:Small 1048576 ss) (ha:At w B v ss):
    Calls Tryz.prog 11 #[v] w fun e w'=>∃v',e=.returned v'∧At w' w.heap.size v' ss∧Own w' w.heap.size w'.heap.size v' ss.length ss∧Below w.heap.size w w':=by
 obtain ⟨a,cap,rfl⟩:=ha.slice
 have HA:=hid ha
 have HL:=hid hl
 have hlen:=hl.1
 clear ha hl
 have hmk:=Nu.make_row (P:=Tryz.prog) Tryz.underlying24 infoR ss.length (by omega) (by omega)
 go_enter Tryz.func11,Tryz.ntmps11
 go_wp2
 go_loopw [4] (fun i wr=>∃(k:Nat) (f:Nat→Value) (lo hi:Nat→Nat),i=.int .i64 k∧k≤ss.length∧Hid (Iv w.heap.size wr.heap.size k lo hi)∧Hid (wr.rowIs w.heap.size 89 (ss.length*1) f)∧Hid (∀j (hj:j<ss.length),j<k→cellsOk wr (w.heap.size+1) f j ss[j])∧Hid (∀j (hj:j<ss.length),j<k→St.Own wr (lo j) (hi j) (f (j)) ss[j].length (St.lenC ss[j]) (St.lenE ss[j]))∧Below w.heap.size w wr) (fun i _=>ss.length - (intOf i).toNat)
 case atStart=>
  obtain ⟨f,hf⟩:=Nu.made_row w (Value.agg #[.slice none 0 0]).cells (ss.length) 89
  exact ⟨0,f,fun _=>0,fun _=>0,rfl,Nat.zero_le _,hid (Iv.nil _ _ _ _),hid (by rw [Nat.mul_one];exact hf),fun j _ h=>by omega,fun j _ h=>by omega,(Below.refl _ _).alloc (Nat.le_refl _) _⟩
 case round=>
  obtain ⟨k,f,lo,hi,rfl,hkl,HV0,HR,HF,HW,hbel⟩:=hrel
  by_cases hlt:k<ss.length
  ·obtain ⟨g,o,v1,rfl,hg,c0,hv⟩:=(HA.out.below hbel).at hlt
   obtain ⟨a21,k21,rfl⟩:=hv.slice
   have HV:=hid hv
   clear hv
   have hs1:=hid (HL.out.at hlt)
   have q1:(k:Int)<(ss.length:Int):=by omega
   go_wp2_with fail
   refine (toOne B ss[k] _ _ hs1.out HV.out).mono ?_
   rintro e w1 ⟨u1,rfl,hux,hox,hb1⟩
   have hlt1:=HR.out.lt
   obtain ⟨a41,k41,rfl⟩:=hux.slice
   have hR1:w1.rowIs w.heap.size 89 (ss.length*1) f:=HR.out.of_block (hb1.block _ HR.out.lt)
   have d0:=hR1.cell (i:=k) (by omega)
   have f0:=hR1.frozen (k)
   have hF1:∀j (hj:j<ss.length),j<k→cellsOk w1 (w.heap.size+1) f j ss[j]:=fun j hj hjk=>by
    obtain ⟨q0,qx⟩:=HF.out j hj hjk
    exact ⟨q0,qx.below hb1⟩
   have hW1:∀j (hj:j<ss.length),j<k→St.Own w1 (lo j) (hi j) (f (j)) ss[j].length (St.lenC ss[j]) (St.lenE ss[j]):=fun j hj hjk=>
    own1Kept (HW.out j hj hjk) (fun b _ _ hl=>hb1.block b hl)
   obtain ⟨f',hR2,hF2,hW2⟩:=stepR (k:=k) hR1 hlt hF1 (fun j hj=>(HV0.out.base j hj).1) hlt1 hW1 (hux.mono hlt1) hox
   have HV1:Hid (Iv w.heap.size (putR w1 w.heap.size k ss[k] (.slice a41 ss[k].length k41)).heap.size (k+1) (fun i=>if i=k then wr.heap.size else lo i) (fun i=>if i=k then w1.heap.size else hi i)):=hid (by rw [size_putR];exact HV0.out.step (Nat.le_refl _) hlt1 hb1.size)
   have HR2:=hid hR2
   have HF2:=hid hF2
   have HW2:Hid (∀j (hj:j<ss.length),j<k+1→St.Own (putR w1 w.heap.size k ss[k] (.slice a41 ss[k].length k41)) (if j=k then wr.heap.size else lo j) (if j=k then w1.heap.size else hi j) (f' (j)) ss[j].length (St.lenC ss[j]) (St.lenE ss[j])):=hid hW2
   have HB:Hid (Below w.heap.size w (putR w1 w.heap.size k ss[k] (.slice a41 ss[k].length k41))):=hid (below_putR (hbel.trans (hb1.mono hbel.size)) (Nat.le_refl _))
   clear hR1 hR2 hF2 hF1 hW1 hW2 hux hox
   unfold putR at HR2 HF2 HW2 HB HV1
   go_wp2
   exact ⟨⟨k+1,f',_,_,by simp,by omega,HV1,HR2,HF2,HW2,HB.out⟩,by simp [intOf];omega⟩
  ·have HX:Hid (At wr w.heap.size (.slice (some ⟨w.heap.size,0,none⟩) ss.length ss.length) ss):=row_recs HR.out (fun j hj=>HF.out j hj (by omega)) _ (Nat.le_refl _) (by unfold maxLen;omega)
   go_wp2
   go_ret
   exact ⟨_,rfl,HX.out,⟨w.heap.size,f,rfl,Nat.le_refl _,HR.out.lt,HR.out,lo,hi,by obtain rfl:k=ss.length:=by omega
                                                                                  exact HV0.out,fun j hj=>HW.out j hj (by omega)⟩,hbel⟩
end Ep
end Go.Proofs.YtccklgopcjilcaaGreatDoor
/- The law's comparisons of processes; an argument that is a list of them, as it lies in memory. -/
namespace Go.Proofs.YtccklgopcjilcaaGreatDoor
open Go.RowKit Go.Deep
set_option linter.unusedVariables false
namespace Ep
open Ex (hid)
open Nd (lt_of_cell)
open St (StepD)
set_option maxRecDepth 100000 in
set_option maxHeartbeats 1000000 in
theorem eqOne (B1 B2:Nat) (x:(List StepD)) (c1 e1:Value) (w:World) (hl:Small1 1048576 x) (h1:St.At w B1 c1 x) (h2:St.At w B2 e1 x):
    Calls Tryz.prog 51 #[.agg #[c1],.agg #[e1]] w fun e w'=>e=.returned (.bool true)∧Below w.heap.size w w':=by
 obtain ⟨a1,k1,rfl⟩:=h1.slice
 obtain ⟨b1,l1,rfl⟩:=h2.slice
 have hB:Below w.heap.size w ((w.alloc (.cells #[.slice a1 x.length k1] 89)).alloc (.cells #[.slice b1 x.length l1] 89)):=((Below.refl _ w).alloc (Nat.le_refl _) _).alloc (by simp) _
 have H1:=hid (h1.below hB)
 have H2:=hid (h2.below hB)
 have HB:=hid hB
 have HL:=hid hl
 clear h1 h2 hB hl
 go_enter Tryz.func51,Tryz.ntmps51
 go_wp2_with fail
 refine (St.eqS B1 B2 x _ _ _ HL.out H1.out H2.out).mono ?_
 rintro e w1 ⟨rfl,hb1⟩
 have HB1:=hid (HB.out.trans (hb1.mono HB.out.size))
 clear hb1
 go_wp2
 go_ret
 exact ⟨rfl,HB1.out⟩
set_option maxRecDepth 100000 in
set_option maxHeartbeats 2000000 in
theorem eqS (B1 B2:Nat) (ss:List (List StepD)) (v1 v2:Value) (w:World) (hl:Small 1048576 ss) (h1:At w B1 v1 ss) (h2:At w B2 v2 ss):
    Calls Tryz.prog 14 #[v1,v2] w fun e w'=>e=.returned (.bool true)∧Below w.heap.size w w':=by
 obtain ⟨a1,c1,rfl⟩:=h1.slice
 obtain ⟨a2,c2,rfl⟩:=h2.slice
 have H1:=hid h1
 have H2:=hid h2
 have HL:=hid hl
 have hlen:=hl.1
 clear h1 h2 hl
 have hb:((ss.length:Int) != (ss.length:Int))=false:=by simp
 go_enter Tryz.func14,Tryz.ntmps14
 go_wp2
 go_loopw [5] (fun i wr=>∃k:Nat,i=.int .i64 k∧k≤ss.length∧Below w.heap.size w wr) (fun i _=>ss.length - (intOf i).toNat)
 case atStart=>exact ⟨0,rfl,Nat.zero_le _,Below.refl _ _⟩
 case round=>
  obtain ⟨k,rfl,hk,hbel⟩:=hrel
  by_cases hlt:k<ss.length
  ·obtain ⟨g1,o1,c1,rfl,hg1,p0,hc1⟩:=(H1.out.below hbel).at hlt
   obtain ⟨g2,o2,e1,rfl,hg2,t0,hc2⟩:=(H2.out.below hbel).at hlt
   have hsm:=HL.out.at hlt
   have HE:Hid (∀w1:World,Below wr.heap.size wr w1→Calls Tryz.prog 51 #[.agg #[c1],.agg #[e1]] w1 fun e w'=>e=.returned (.bool true)∧Below w1.heap.size w1 w'):=fun w1 h=>eqOne B1 B2 ss[k] c1 e1 w1 hsm (hc1.below h) (hc2.below h)
   obtain ⟨a1,k1,rfl⟩:=hc1.slice
   obtain ⟨b1,l1,rfl⟩:=hc2.slice
   clear hc1 hc2 hsm
   have t1:(k:Int)<(ss.length:Int):=by omega
   go_wp2
   go_region_with ((go_at_call 51;refine (HE.out _ ?_).mono ?_;exact (Below.refl wr.heap.size wr).drew;rintro e w1 ⟨rfl,hb1⟩;have hbb:Below wr.heap.size wr w1:=((Below.refl wr.heap.size wr).drew).trans hb1))
   all_goals go_wp2
   all_goals exact ⟨⟨k+1,by simp,by omega,hbel.trans (hbb.mono hbel.size)⟩,by simp [intOf];omega⟩
  ·go_wp2
   go_ret
   exact ⟨rfl,hbel⟩
theorem cellsR:Tryz.prog.cellsOf 84=1:=by kernel_rfl
theorem cellsSub:Tryz.prog.cellsOf 82=1:=by kernel_rfl
set_option maxRecDepth 100000 in
theorem open_one {H:Type} {enc:TypeId × Value→H} {w:World} {base:Nat} {spare:Nat→Bool} {held:Bool} {fuel:Nat} {cs:List Value} {x:DataW H × List MemPlace} (h:DataW.trod enc Tryz.prog w base spare held fuel 84 cs=some x):
    ∃(s:List StepD) (v1:Value),cs=[v1]∧St.At w 0 v1 s∧Ok1 s:=by
 obtain ⟨xs,n,rfl,_,hlen,hxl,hf⟩:=DataW.trod_struct Tryz.underlying84 h
 have h0:=hf 0 _ rfl
 rw [cellsR] at hlen
 match cs,hlen with
 | [a],_=>
  match xs,hxl with
  | [x0],_=>
   simp [cellsSub] at h0
   obtain ⟨ss,h1,h2,h3⟩:=St.open_all h0
   exact ⟨ss,a,rfl,h1,h2,h3⟩
set_option maxRecDepth 100000 in
theorem open_all {H:Type} {enc:TypeId × Value→H} {w:World} {base:Nat} {spare:Nat→Bool} {held:Bool} {fuel:Nat} {v:Value} {x:DataW H × List MemPlace} (h:DataW.trod enc Tryz.prog w base spare held fuel 22 [v]=some x):
    ∃ss,At w 0 v ss∧Ok ss∧ss.length≤maxLen:=by
 rcases open_slice Tryz.underlying22 h with ⟨hcs,_⟩ | ⟨a,len,cap,m,n,D,Pl,hcs,hb,hl,hcm,hm,_,hx⟩
 ·obtain rfl:v=.slice none 0 0:=by simpa using hcs
  exact ⟨[],⟨none,0,rfl,Nat.le_refl _,Nat.zero_le _,.inl rfl⟩,fun _ h=>by (cases h),Nat.zero_le _⟩
 ·obtain rfl:v=.slice (some a) len cap:=by simpa using hcs
  have hlm:len≤m:=by rw [hm];split <;> omega
  rw [cellsR] at hx
  have each:∀i,i<len→∃q:(List StepD),(∃v1,w.cell? (a.add (i*1))=some v1∧St.At w 0 v1 q)∧Ok1 q:=fun i hi=>by
   obtain ⟨cs',c0,d0⟩:=hx i (by omega)
   obtain ⟨e,v1,rfl,g1,g3⟩:=open_one d0
   obtain ⟨_,_,hc⟩:=World.cells?_some c0
   have k0:=hc 0 (by omega)
   rw [Nu.add_add] at k0
   exact ⟨e,⟨v1,k0,g1⟩,g3⟩
  haveI:Inhabited ((List StepD)):=⟨[]⟩
  obtain ⟨F,hF⟩:=choose_lt each
  refine ⟨(List.range len).map F,?_,?_,by simp;omega⟩
  ·refine ⟨some a,cap,by simp,by simpa using hl,hcm,?_⟩
   rcases Nat.eq_zero_or_pos len with h0 | h0
   ·exact .inl (by simp [h0])
   ·right
    obtain ⟨b,off,spot⟩:=a
    obtain ⟨⟨_,hc0,_⟩,_⟩:=hF 0 h0
    have hspot:spot=none:=by simpa [Addr.add] using World.cell?_spot hc0
    subst hspot
    refine ⟨b,off,rfl,Nat.zero_le _,lt_of_cell hc0,fun i hi=>?_⟩
    have hi':i<len:=by simpa using hi
    obtain ⟨⟨v1,h2⟩,_⟩:=hF i hi'
    simp only [List.getElem_map,List.getElem_range]
    simp only [Go.WideShapes.add_plain,Nat.mul_one] at h2 ⊢
    exact ⟨v1,h2⟩
  ·intro q hq
   obtain ⟨i,hi,rfl⟩:=List.mem_map.1 hq
   exact (hF i (by simpa using hi)).2
end Ep
end Go.Proofs.YtccklgopcjilcaaGreatDoor
/- Rows of instances in memory, and the law's measure of them. -/
namespace Go.Proofs.YtccklgopcjilcaaGreatDoor
open Go.RowKit Go.Deep
set_option linter.unusedVariables false
namespace Ei
open Ex (hid)
open St (StepD old_cell old_free setB)
structure InstD where
 proc:Int
 chart:Ch.RunD
def Ok1 (s:InstD):Prop:=Ch.Ok s.chart
def Small1 (n:Int) (s:InstD):Prop:=Ch.Small n s.chart
theorem Small1.mono {m n:Int} {s:InstD} (h:Small1 m s) (hm:m≤n):Small1 n s:=Ch.Small.mono h hm
def wt1 (s:InstD):Nat:=0
def At (w:World) (B:Nat) (v:Value) (ss:List InstD):Prop:=
 ∃a cap,v=.slice a ss.length cap∧ss.length≤cap∧cap≤maxLen∧(ss=[]∨∃g o,a=some ⟨g,o,none⟩∧B≤g∧g<w.heap.size∧
  ∀i (h:i<ss.length),∃v1 v2 v3,w.cell? ⟨g,o+i*6,none⟩=some (.int .i64 ss[i].proc)∧w.cell? ⟨g,o+i*6+1,none⟩=some (.int .i64 ss[i].chart.status)∧w.cell? ⟨g,o+i*6+2,none⟩=some (.int .i64 ss[i].chart.now)∧w.cell? ⟨g,o+i*6+3,none⟩=some v1∧w.cell? ⟨g,o+i*6+4,none⟩=some v2∧w.cell? ⟨g,o+i*6+5,none⟩=some v3∧Ch.At w B v1 v2 v3 ss[i].chart)
theorem At.kept {w w':World} {B:Nat} {v:Value} {ss:List InstD} (h:At w B v ss) (hs:w.heap.size≤w'.heap.size) (hb:∀g,B≤g→g<w.heap.size→w'.heap[g]?=w.heap[g]?):At w' B v ss:=by
 obtain ⟨a,cap,rfl,hle,hmx,h⟩:=h
 refine ⟨a,cap,rfl,hle,hmx,?_⟩
 rcases h with h | ⟨g,o,rfl,hB,hg,hc⟩
 ·exact .inl h
 ·refine .inr ⟨g,o,rfl,hB,Nat.lt_of_lt_of_le hg hs,fun i hi=>?_⟩
  have e:∀off,w'.cell? ⟨g,off,none⟩=w.cell? ⟨g,off,none⟩:=fun off=>by simp only [World.cell?,hb g hB hg]
  obtain ⟨v1,v2,v3,h0,h1,h2,h3,h4,h5,hy⟩:=hc i hi
  exact ⟨v1,v2,v3,(e _).trans h0,(e _).trans h1,(e _).trans h2,(e _).trans h3,(e _).trans h4,(e _).trans h5,hy.kept hs hb⟩
theorem At.below {w w':World} {B:Nat} {v:Value} {ss:List InstD} (h:At w B v ss) (hb:Below w.heap.size w w'):At w' B v ss:=h.kept hb.size (fun g _ hg=>hb.block g hg)
theorem At.setBelow {w:World} {B:Nat} {v:Value} {ss:List InstD} (h:At w B v ss) {b o:Nat} (ha:b<B) (x:Value):At (w.setCell ⟨b,o,none⟩ x) B v ss:=
 h.kept (by simp [World.setCell]) (fun g hg _=>Below.heap_setCell _ _ _ _ (by dsimp only;omega))
theorem At.mono {w:World} {B B':Nat} {v:Value} {ss:List InstD} (h:At w B v ss) (hB:B'≤B):At w B' v ss:=by
 obtain ⟨a,cap,rfl,hle,hmx,h⟩:=h
 refine ⟨a,cap,rfl,hle,hmx,?_⟩
 rcases h with h | ⟨g,o,rfl,hb,hg,hc⟩
 ·exact .inl h
 ·refine .inr ⟨g,o,rfl,Nat.le_trans hB hb,hg,fun i hi=>?_⟩
  obtain ⟨v1,v2,v3,h0,h1,h2,h3,h4,h5,hy⟩:=hc i hi
  exact ⟨v1,v2,v3,h0,h1,h2,h3,h4,h5,hy.mono hB⟩
theorem At.slice {w:World} {B:Nat} {v:Value} {ss:List InstD} (h:At w B v ss):∃a cap,v=.slice a ss.length cap:=by
 obtain ⟨a,cap,rfl,_⟩:=h;exact ⟨a,cap,rfl⟩
theorem At.at {w:World} {B:Nat} {a:Option Addr} {n cap:Nat} {ss:List InstD} (h:At w B (.slice a n cap) ss) {i:Nat} (hi:i<ss.length):
    ∃g o v1 v2 v3,a=some ⟨g,o,none⟩∧g<w.heap.size∧w.cell? ⟨g,o+i*6,none⟩=some (.int .i64 ss[i].proc)∧w.cell? ⟨g,o+i*6+1,none⟩=some (.int .i64 ss[i].chart.status)∧w.cell? ⟨g,o+i*6+2,none⟩=some (.int .i64 ss[i].chart.now)∧w.cell? ⟨g,o+i*6+3,none⟩=some v1∧w.cell? ⟨g,o+i*6+4,none⟩=some v2∧w.cell? ⟨g,o+i*6+5,none⟩=some v3∧Ch.At w B v1 v2 v3 ss[i].chart:=by
 obtain ⟨a',cap',e,_,_,h⟩:=h
 cases e
 rcases h with h | ⟨g,o,rfl,_,hg,hc⟩
 ·subst h;simp at hi
 ·obtain ⟨v1,v2,v3,hx⟩:=hc i hi
  exact ⟨g,o,v1,v2,v3,rfl,hg,hx⟩
theorem At.nil (w:World) (B:Nat):At w B (.slice none 0 0) []:=⟨_,_,rfl,Nat.le_refl _,Nat.zero_le _,.inl rfl⟩
theorem At.cap {w:World} {B:Nat} {a:Option Addr} {n cap:Nat} {ss:List InstD} (h:At w B (.slice a n cap) ss):ss.length≤cap∧cap≤maxLen:=by
 obtain ⟨a',cap',e,h1,h2,_⟩:=h;cases e;exact ⟨h1,h2⟩
def Ok (ss:List InstD):Prop:=∀s∈ss,Ok1 s
def Small (n:Int) (ss:List InstD):Prop:=(ss.length:Int)≤n∧∀s∈ss,Small1 n s
theorem Small.at {n:Int} {ss:List InstD} (h:Small n ss) {i:Nat} (hi:i<ss.length):Small1 n ss[i]:=h.2 _ (List.getElem_mem hi)
theorem Small.mono {m n:Int} {ss:List InstD} (h:Small m ss) (hm:m≤n):Small n ss:=⟨Int.le_trans h.1 hm,fun s hs=>(h.2 s hs).mono hm⟩
def wt:List InstD→Nat
 | []=>0
 | s :: ss=>1+wt1 s+wt ss
theorem wt_take {ss:List InstD} {k:Nat} (h:k<ss.length):wt (ss.take (k+1))=wt (ss.take k)+1+wt1 ss[k]:=by
 induction ss generalizing k with
 | nil=>simp at h
 | cons s ss ih=>
  cases k with
  | zero=>simp [wt]
  | succ k=>
   have:=ih (k:=k) (by simpa using h)
   simp only [List.take_succ_cons,wt,List.getElem_cons_succ] at this ⊢
   omega
set_option maxRecDepth 100000 in
set_option maxHeartbeats 1000000 in
theorem szOne (B:Nat) (x:InstD) (v1 v2 v3:Value) (n:Int) (w:World) (h0:0≤n) (hn:n≤1048576) (hk:Ok1 x) (hc:Ch.At w B v1 v2 v3 x.chart):
    Calls Tryz.prog 116 #[.agg #[.int .i64 x.proc,.int .i64 x.chart.status,.int .i64 x.chart.now,v1,v2,v3],.int .i64 n] w fun e w'=>(∃r:Int,e=.returned (.int .i64 r)∧-1≤r∧r≤n∧(0≤r→Small1 n x∧r+(wt1 x:Int)≤n))∧Below w.heap.size w w':=by
 obtain ⟨a1,k1,rfl⟩:=hc.vars.slice
 obtain ⟨a2,k2,rfl⟩:=hc.marks.slice
 obtain ⟨a3,k3,rfl⟩:=hc.dues.slice
 have hB:Below w.heap.size w (w.alloc (.cells #[.int .i64 x.proc,.int .i64 x.chart.status,.int .i64 x.chart.now,.slice a1 x.chart.vars.length k1,.slice a2 x.chart.marks.length k2,.slice a3 x.chart.dues.length k3] 181)):=(Below.refl _ w).alloc (Nat.le_refl _) _
 have HC2:=hid (hc.below hB)
 clear hc
 go_enter Tryz.func116,Tryz.ntmps116
 go_wp2_with fail
 refine (Ch.sz B x.chart _ _ _ n _ h0 hn hk HC2.out).mono ?_
 rintro e w1 ⟨⟨r,rfl,hr1,hr2,hr3⟩,hb1⟩
 have HB1:=hid (hB.trans (hb1.mono hB.size))
 clear hb1
 by_cases hr:r<0
 ·go_wp2
  go_ret
  exact ⟨⟨-1,rfl,by omega,by omega,by omega⟩,HB1.out⟩
 ·have hr3':=hid (hr3 (by omega))
  clear hr3
  go_wp2
  go_ret
  exact ⟨⟨r,rfl,by omega,by omega,fun _=>⟨hr3'.out,by unfold wt1;omega⟩⟩,HB1.out⟩
set_option maxRecDepth 100000 in
set_option maxHeartbeats 1000000 in
theorem szS (B:Nat) (ss:List InstD) (v:Value) (n:Int) (w:World) (h0:0≤n) (hn:n≤1048576) (hl:ss.length≤maxLen) (hk:Ok ss) (ha:At w B v ss):
    Calls Tryz.prog 65 #[v,.int .i64 n] w fun e w'=>(∃r:Int,e=.returned (.int .i64 r)∧-1≤r∧r≤n∧(0≤r→Small n ss∧r+(wt ss:Int)≤n))∧Below w.heap.size w w':=by
 obtain ⟨a,cap,rfl⟩:=ha.slice
 have HA:=hid ha
 have HK:=hid hk
 clear ha hk
 unfold maxLen at hl
 by_cases q1:n - (ss.length:Int)<0
 ·go_enter Tryz.func65,Tryz.ntmps65
  go_wp2
  go_ret
  exact ⟨⟨-1,rfl,by omega,by omega,by omega⟩,Below.refl _ _⟩
 ·go_enter Tryz.func65,Tryz.ntmps65
  go_wp2
  go_loopw [1,5] (fun m i wr=>∃(k:Nat) (z:Int),i=.int .i64 k∧m=.int .i64 z∧0≤z∧z≤n∧k≤ss.length∧z+(wt (ss.take k):Int)≤n - (ss.length:Int)+(k:Int)∧Hid (∀j (h:j<ss.length),j<k→Small1 n ss[j])∧Below w.heap.size w wr) (fun _ i _=>ss.length - (intOf i).toNat)
  case atStart=>exact ⟨0,_,rfl,rfl,by omega,by omega,Nat.zero_le _,by simp [wt],fun j _ h=>by omega,Below.refl _ _⟩
  case round=>
   obtain ⟨k,z,rfl,rfl,hz0,hzn,hkl,hzw,HJ,hbel⟩:=hrel
   by_cases hlt:k<ss.length
   ·obtain ⟨g,o,v1,v2,v3,rfl,hg,c0,c1,c2,c3,c4,c5,hv⟩:=(HA.out.below hbel).at hlt
    obtain ⟨a21,k21,rfl⟩:=hv.vars.slice
    obtain ⟨a22,k22,rfl⟩:=hv.marks.slice
    obtain ⟨a23,k23,rfl⟩:=hv.dues.slice
    have HV:=hid hv
    clear hv
    have hke:=HK.out ss[k] (List.getElem_mem hlt)
    have q1:(k:Int)<(ss.length:Int):=by omega
    go_wp2_with fail
    refine (szOne B ss[k] _ _ _ z _ hz0 (by omega) hke HV.out).mono ?_
    rintro e w1 ⟨⟨r,rfl,hr1,hr2,hr3⟩,hb1⟩
    have hB:=hbel.trans (hb1.mono hbel.size)
    by_cases hr:r<0
    ·go_wp2
     go_ret
     exact ⟨⟨-1,rfl,by omega,by omega,by omega⟩,hB⟩
    ·have hr4:=hr3 (by omega)
     have hr5:=hr4.2
     have hr6:=wt_take hlt
     have HJ2:Hid (∀j (h:j<ss.length),j<k+1→Small1 n ss[j]):=hid (fun j h hj=>by
      by_cases e:j=k
      ·subst e
       exact hr4.1.mono hzn
      ·exact HJ.out j h (by omega))
     have hzw2:r+(wt (ss.take (k+1)):Int)≤n - (ss.length:Int)+((k+1:Nat):Int):=by omega
     clear hr3 hr4 hr5 hr6
     go_wp2
     exact ⟨⟨k+1,r,by simp,rfl,by omega,by omega,by omega,hzw2,HJ2,hB⟩,by simp [intOf];omega⟩
   ·have HJ2:Hid (Small n ss):=hid ⟨by omega,fun x hx=>by
     obtain ⟨j,hj,rfl⟩:=List.getElem_of_mem hx
     exact HJ.out j hj (by omega)⟩
    rw [List.take_of_length_le (by omega)] at hzw
    go_wp2
    go_ret
    exact ⟨⟨z,rfl,by omega,by omega,fun _=>⟨HJ2.out,by omega⟩⟩,hbel⟩
end Ei
end Go.Proofs.YtccklgopcjilcaaGreatDoor
