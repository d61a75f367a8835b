/- Laid together: EiB, EiC. -/
import Derived.Test.YtccklgopcjilcaaGreatDoorJCT12
/- The law's copies of instances, and what they own. -/
namespace Go.Proofs.YtccklgopcjilcaaGreatDoor
open Go.RowKit Go.Deep
set_option linter.unusedVariables false
namespace Ei
open Ex (hid)
open St (StepD old_cell old_free setB)
theorem infoR:(Tryz.prog.info? 114).map (fun i=>(i.zero,i.size,i.bytes))=some (some (Value.agg #[.int .i64 0,.int .i64 0,.int .i64 0,.slice none 0 0,.slice none 0 0,.slice none 0 0]),6,96):=by kernel_rfl
theorem own1Kept {w w':World} {B C:Nat} {v1 v2 v3:Value} {r:Ch.RunD} (h:Ch.Rows3 w B C v1 v2 v3 r) (hb:∀g,B≤g→g<C→g<w.heap.size→w'.heap[g]?=w.heap[g]?):Ch.Rows3 w' B C v1 v2 v3 r:=by
 obtain ⟨⟨g1,f1,rfl,p1,q1,r1⟩,⟨g2,f2,rfl,p2,q2,r2⟩,⟨g3,f3,rfl,p3,q3,r3⟩⟩:=h
 exact ⟨⟨g1,f1,rfl,p1,q1,r1.of_block (hb g1 p1 q1 r1.lt)⟩,⟨g2,f2,rfl,p2,q2,r2.of_block (hb g2 p2 q2 r2.lt)⟩,⟨g3,f3,rfl,p3,q3,r3.of_block (hb g3 p3 q3 r3.lt)⟩⟩
theorem own1Mono {w:World} {B B' C C':Nat} {v1 v2 v3:Value} {r:Ch.RunD} (h:Ch.Rows3 w B C v1 v2 v3 r) (hB:B'≤B) (hC:C≤C'):Ch.Rows3 w B' C' v1 v2 v3 r:=by
 obtain ⟨⟨g1,f1,rfl,p1,q1,r1⟩,⟨g2,f2,rfl,p2,q2,r2⟩,⟨g3,f3,rfl,p3,q3,r3⟩⟩:=h
 exact ⟨⟨g1,f1,rfl,by omega,by omega,r1⟩,⟨g2,f2,rfl,by omega,by omega,r2⟩,⟨g3,f3,rfl,by omega,by omega,r3⟩⟩
set_option maxRecDepth 100000 in
set_option maxHeartbeats 2000000 in
theorem toOne (B:Nat) (x:InstD) (v1 v2 v3:Value) (w:World) (hl:Small1 1048576 x) (hc:Ch.At w B v1 v2 v3 x.chart):
    Calls Tryz.prog 120 #[.agg #[.int .i64 x.proc,.int .i64 x.chart.status,.int .i64 x.chart.now,v1,v2,v3]] w fun e w'=>∃u1 u2 u3,e=.returned (.agg #[.int .i64 x.proc,.int .i64 x.chart.status,.int .i64 x.chart.now,u1,u2,u3])∧Ch.At w' w.heap.size u1 u2 u3 x.chart∧Ch.Rows3 w' w.heap.size w'.heap.size u1 u2 u3 x.chart∧Below w.heap.size w w':=by
 obtain ⟨a1,k1,rfl⟩:=hc.vars.slice
 obtain ⟨a2,k2,rfl⟩:=hc.marks.slice
 obtain ⟨a3,k3,rfl⟩:=hc.dues.slice
 have HC:=hid hc
 have HL:=hid hl
 clear hc hl
 go_enter Tryz.func120,Tryz.ntmps120
 go_wp2_with fail
 refine (Ch.to2 B x.chart _ _ _ _ HL.out (HC.out.below ?hB)).mono ?_
 case hB=>exact (((Below.refl _ w).alloc (Nat.le_refl _) _).alloc (by simp) _).alloc (by simp;omega) _
 rintro e w1 ⟨x1,x2,x3,rfl,hu,hb1⟩
 simp only [World.size_alloc] at hb1 hu
 obtain ⟨b1,l1,rfl⟩:=hu.vars.slice
 obtain ⟨b2,l2,rfl⟩:=hu.marks.slice
 obtain ⟨b3,l3,rfl⟩:=hu.dues.slice
 have HU:=hid hu
 clear hu
 have hz:w.heap.size+1+1+1≤w1.heap.size:=by have:=hb1.size;simpa using this
 have z1:w.heap.size+1<w1.heap.size:=by omega
 have z2:w.heap.size+1+1<w1.heap.size:=by omega
 have K2:Hid (w1.heap[w.heap.size+1+1]?=some (.cells #[.int .i64 x.proc,.int .i64 0,.int .i64 0,.slice none 0 0,.slice none 0 0,.slice none 0 0] 114)):=hid ((hb1.block (w.heap.size+1+1) (by omega)).trans (Ch.new_at (by simp) _))
 have K1:Hid (w1.heap[w.heap.size+1]?=some (.cells #[.int .i64 0,.int .i64 0,.int .i64 0,.slice none 0 0,.slice none 0 0,.slice none 0 0] 114)):=hid ((hb1.block (w.heap.size+1) (by omega)).trans (by rw [Below.heap_alloc _ _ _ (by simp)];exact Ch.new_at (by simp) _))
 have c0:w1.cell? ⟨w.heap.size+1+1,0,none⟩=some (.int .i64 x.proc):=by rw [Ch.blk_cell K2.out];rfl
 have d0:w1.cell? ⟨w.heap.size+1,0,none⟩=some (.int .i64 0):=by rw [Ch.blk_cell K1.out];rfl
 have f0:=Ch.blk_free K2.out 0
 have e0:=Ch.blk_free K1.out 0
 have c1:w1.cell? ⟨w.heap.size+1+1,1,none⟩=some (.int .i64 0):=by rw [Ch.blk_cell K2.out];rfl
 have d1:w1.cell? ⟨w.heap.size+1,1,none⟩=some (.int .i64 0):=by rw [Ch.blk_cell K1.out];rfl
 have f1:=Ch.blk_free K2.out 1
 have e1:=Ch.blk_free K1.out 1
 have c2:w1.cell? ⟨w.heap.size+1+1,2,none⟩=some (.int .i64 0):=by rw [Ch.blk_cell K2.out];rfl
 have d2:w1.cell? ⟨w.heap.size+1,2,none⟩=some (.int .i64 0):=by rw [Ch.blk_cell K1.out];rfl
 have f2:=Ch.blk_free K2.out 2
 have e2:=Ch.blk_free K1.out 2
 have c3:w1.cell? ⟨w.heap.size+1+1,3,none⟩=some (.slice none 0 0):=by rw [Ch.blk_cell K2.out];rfl
 have d3:w1.cell? ⟨w.heap.size+1,3,none⟩=some (.slice none 0 0):=by rw [Ch.blk_cell K1.out];rfl
 have f3:=Ch.blk_free K2.out 3
 have e3:=Ch.blk_free K1.out 3
 have c4:w1.cell? ⟨w.heap.size+1+1,4,none⟩=some (.slice none 0 0):=by rw [Ch.blk_cell K2.out];rfl
 have d4:w1.cell? ⟨w.heap.size+1,4,none⟩=some (.slice none 0 0):=by rw [Ch.blk_cell K1.out];rfl
 have f4:=Ch.blk_free K2.out 4
 have e4:=Ch.blk_free K1.out 4
 have c5:w1.cell? ⟨w.heap.size+1+1,5,none⟩=some (.slice none 0 0):=by rw [Ch.blk_cell K2.out];rfl
 have d5:w1.cell? ⟨w.heap.size+1,5,none⟩=some (.slice none 0 0):=by rw [Ch.blk_cell K1.out];rfl
 have f5:=Ch.blk_free K2.out 5
 have e5:=Ch.blk_free K1.out 5
 have hB0:Below w.heap.size w w1:=((((Below.refl _ w).alloc (Nat.le_refl _) _).alloc (by simp) _).alloc (by simp;omega) _).trans (hb1.mono (by omega))
 have HB0:=hid hB0
 clear hb1 hB0 K1 K2
 go_wp2
 refine bodyPost_ret (v:=.agg #[.int .i64 x.proc,.int .i64 x.chart.status,.int .i64 x.chart.now,.slice b1 x.chart.vars.length l1,.slice b2 x.chart.marks.length l2,.slice b3 x.chart.dues.length l3]) (by simp [results,Tryz.results120,go_sem,d0,d1,d2,d3,d4,d5]) rfl ⟨_,_,_,rfl,?_,?_,?_⟩
 ·exact (HU.out.at'.kept (by simp [World.setCell]) (fun g hg _=>by repeat rw [Below.heap_setCell _ _ _ _ (by dsimp only;omega)])).mono (by omega)
 ·exact own1Mono (own1Kept HU.out.rows (fun g hg _ _=>by repeat rw [Below.heap_setCell _ _ _ _ (by dsimp only;omega)])) (by omega) (by simp [World.setCell])
 ·exact setB (setB (setB (setB (setB (setB (setB (setB (setB (setB (setB HB0.out (by omega) _) (by omega) _) (by omega) _) (by omega) _) (by omega) _) (by omega) _) (by omega) _) (by omega) _) (by omega) _) (by omega) _) (by omega) _
def Own (w:World) (B C:Nat) (v:Value) (n:Nat) (ss:List InstD):Prop:=∃g f,v=.slice (some ⟨g,0,none⟩) n n∧B≤g∧g<C∧w.rowIs g 114 (n*6) f∧∀j (h:j<ss.length),Ch.Rows3 w (g+1) C (f (j*6+3)) (f (j*6+4)) (f (j*6+5)) ss[j].chart
theorem Own.kept {w w':World} {B C n:Nat} {v:Value} {ss:List InstD} (h:Own w B C v n ss) (hb:∀g,B≤g→g<C→g<w.heap.size→w'.heap[g]?=w.heap[g]?):Own w' B C v n ss:=by
 obtain ⟨g,f,rfl,h1,h2,h3,h4⟩:=h
 exact ⟨g,f,rfl,h1,h2,h3.of_block (hb g h1 h2 h3.lt),fun j hj=>own1Kept (h4 j hj) (fun b hb1 hb2 hb3=>hb b (by omega) hb2 hb3)⟩
theorem Own.below {w w':World} {B C n:Nat} {v:Value} {ss:List InstD} (h:Own w B C v n ss) (hb:Below w.heap.size w w'):Own w' B C v n ss:=h.kept (fun g _ _ hg=>hb.block g hg)
theorem Own.mono {w:World} {B B' C C' n:Nat} {v:Value} {ss:List InstD} (h:Own w B C v n ss) (hB:B'≤B) (hC:C≤C'):Own w B' C' v n ss:=by
 obtain ⟨g,f,rfl,h1,h2,h3,h4⟩:=h
 exact ⟨g,f,rfl,Nat.le_trans hB h1,Nat.lt_of_lt_of_le h2 hC,h3,fun j hj=>own1Mono (h4 j hj) (Nat.le_refl _) hC⟩
theorem Own.setBelow {w:World} {B C n b o:Nat} {v:Value} {ss:List InstD} (h:Own w B C v n ss) (hb:b<B) (x:Value):Own (w.setCell ⟨b,o,none⟩ x) B C v n ss:=
 h.kept (fun g hg _ _=>Below.heap_setCell _ _ _ _ (by dsimp only;omega))
def cellsOk (w:World) (B:Nat) (f:Nat→Value) (j:Nat) (s:InstD):Prop:=f (j*6)=.int .i64 s.proc∧f (j*6+1)=.int .i64 s.chart.status∧f (j*6+2)=.int .i64 s.chart.now∧Ch.At w B (f (j*6+3)) (f (j*6+4)) (f (j*6+5)) s.chart
theorem row_recs {w:World} {g:Nat} {t:TypeId} {f:Nat→Value} {ss:List InstD} (h:w.rowIs g t (ss.length*6) f)
    (hf:∀j (hj:j<ss.length),cellsOk w (g+1) f j ss[j]) (cap:Nat) (hc:ss.length≤cap) (hm:cap≤maxLen):At w g (.slice (some ⟨g,0,none⟩) ss.length cap) ss:=by
 refine ⟨_,_,rfl,hc,hm,.inr ⟨g,0,rfl,Nat.le_refl _,h.lt,fun i hi=>?_⟩⟩
 obtain ⟨h0,h1,h2,hy⟩:=hf i hi
 refine ⟨(f (i*6+3)),(f (i*6+4)),(f (i*6+5)),by rw [Nat.zero_add,←h0];exact h.cell (by omega),by rw [Nat.zero_add,←h1];exact h.cell (by omega),by rw [Nat.zero_add,←h2];exact h.cell (by omega),by rw [Nat.zero_add];exact h.cell (by omega),by rw [Nat.zero_add];exact h.cell (by omega),by rw [Nat.zero_add];exact h.cell (by omega),hy.mono (by omega)⟩
def putR (w:World) (g k:Nat) (s:InstD) (v1 v2 v3:Value):World:=(((((w.setCell ⟨g,k*6,none⟩ (.int .i64 s.proc)).setCell ⟨g,k*6+1,none⟩ (.int .i64 s.chart.status)).setCell ⟨g,k*6+2,none⟩ (.int .i64 s.chart.now)).setCell ⟨g,k*6+3,none⟩ v1).setCell ⟨g,k*6+4,none⟩ v2).setCell ⟨g,k*6+5,none⟩ v3
theorem setR {w:World} {g:Nat} {t:TypeId} {n k:Nat} {f:Nat→Value} {v1 v2 v3:Value} {s:InstD} (h:w.rowIs g t n f):
    (putR w g k s v1 v2 v3).rowIs g t n (fun i=>if i=k*6+5 then v3 else if i=k*6+4 then v2 else if i=k*6+3 then v1 else if i=k*6+2 then .int .i64 s.chart.now else if i=k*6+1 then .int .i64 s.chart.status else if i=k*6 then .int .i64 s.proc else f i):=
 (((((h.set (k*6) _).set (k*6+1) _).set (k*6+2) _).set (k*6+3) _).set (k*6+4) _).set (k*6+5) _
theorem keep_putR {w:World} {B g k:Nat} {s:InstD} {v1 v2 v3:Value} (hg:g<B):∀b,B≤b→(putR w g k s v1 v2 v3).heap[b]?=w.heap[b]?:=fun b hb=>by
 unfold putR
 repeat rw [Below.heap_setCell _ _ _ _ (by dsimp only;omega)]
theorem size_putR {w:World} {g k:Nat} {s:InstD} {v1 v2 v3:Value}:(putR w g k s v1 v2 v3).heap.size=w.heap.size:=by simp [putR,World.setCell]
theorem below_putR {w W:World} {B g k:Nat} {s:InstD} {v1 v2 v3:Value} (h:Below B W w) (hg:B≤g):Below B W (putR w g k s v1 v2 v3):=
 setB (setB (setB (setB (setB (setB h hg _) hg _) hg _) hg _) hg _) hg _
theorem fR_old {k j:Nat} {f:Nat→Value} {v1 v2 v3:Value} {s:InstD} {c:Nat} (hj:j≠k) (hc:c<6):
    (fun i=>if i=k*6+5 then v3 else if i=k*6+4 then v2 else if i=k*6+3 then v1 else if i=k*6+2 then .int .i64 s.chart.now else if i=k*6+1 then .int .i64 s.chart.status else if i=k*6 then .int .i64 s.proc else f i) (j*6+c)=f (j*6+c):=by
 have h0:¬j*6+c=k*6:=by omega
 have h1:¬j*6+c=k*6+1:=by omega
 have h2:¬j*6+c=k*6+2:=by omega
 have h3:¬j*6+c=k*6+3:=by omega
 have h4:¬j*6+c=k*6+4:=by omega
 have h5:¬j*6+c=k*6+5:=by omega
 simp only [h0,h1,h2,h3,h4,h5,if_false]
theorem stepR {w:World} {g:Nat} {t:TypeId} {k C:Nat} {f:Nat→Value} {v1 v2 v3:Value} {ss:List InstD} (h:w.rowIs g t (ss.length*6) f) (hk:k<ss.length)
    (hf:∀j (hj:j<ss.length),j<k→cellsOk w (g+1) f j ss[j]) (hw:∀j (hj:j<ss.length),j<k→Ch.Rows3 w (g+1) C (f (j*6+3)) (f (j*6+4)) (f (j*6+5)) ss[j].chart)
    (hc:Ch.At w (g+1) v1 v2 v3 ss[k].chart) (oc:Ch.Rows3 w (g+1) C v1 v2 v3 ss[k].chart):
    ∃f',(putR w g k ss[k] v1 v2 v3).rowIs g t (ss.length*6) f'∧(∀j (hj:j<ss.length),j<k+1→cellsOk (putR w g k ss[k] v1 v2 v3) (g+1) f' j ss[j])∧
     (∀j (hj:j<ss.length),j<k+1→Ch.Rows3 (putR w g k ss[k] v1 v2 v3) (g+1) C (f' (j*6+3)) (f' (j*6+4)) (f' (j*6+5)) ss[j].chart):=by
 have hkp:∀b,g+1≤b→(putR w g k ss[k] v1 v2 v3).heap[b]?=w.heap[b]?:=keep_putR (by omega)
 refine ⟨_,setR (k:=k) (v1:=v1) (v2:=v2) (v3:=v3) (s:=ss[k]) h,fun j hj hjk=>?_,fun j hj hjk=>?_⟩
 ·by_cases e:j=k
  ·subst e
   exact ⟨by simp,by simp,by simp,by simpa using hc.kept (Nat.le_of_eq size_putR.symm) (fun b hb _=>hkp b hb)⟩
  ·obtain ⟨q0,q1,q2,qx⟩:=hf j hj (by omega)
   refine ⟨(fR_old (c:=0) e (by omega)).trans q0,(fR_old (c:=1) e (by omega)).trans q1,(fR_old (c:=2) e (by omega)).trans q2,?_⟩
   have:=qx.kept (w':=putR w g k ss[k] v1 v2 v3) (Nat.le_of_eq size_putR.symm) (fun b hb _=>hkp b hb)
   rw [←fR_old (k:=k) (v1:=v1) (v2:=v2) (v3:=v3) (s:=ss[k]) (f:=f) (c:=3) e (by omega)] at this
   rw [←fR_old (k:=k) (v1:=v1) (v2:=v2) (v3:=v3) (s:=ss[k]) (f:=f) (c:=4) e (by omega)] at this
   rw [←fR_old (k:=k) (v1:=v1) (v2:=v2) (v3:=v3) (s:=ss[k]) (f:=f) (c:=5) e (by omega)] at this
   exact this
 ·by_cases e:j=k
  ·subst e
   simpa using own1Kept oc (fun b hb _ _=>hkp b hb)
  ·have:=own1Kept (hw j hj (by omega)) (fun b hb _ _=>hkp b hb)
   rw [←fR_old (k:=k) (v1:=v1) (v2:=v2) (v3:=v3) (s:=ss[k]) (f:=f) (c:=3) e (by omega)] at this
   rw [←fR_old (k:=k) (v1:=v1) (v2:=v2) (v3:=v3) (s:=ss[k]) (f:=f) (c:=4) e (by omega)] at this
   rw [←fR_old (k:=k) (v1:=v1) (v2:=v2) (v3:=v3) (s:=ss[k]) (f:=f) (c:=5) e (by omega)] at this
   exact this
set_option maxRecDepth 100000 in
set_option maxHeartbeats 2000000 in
theorem toS2 (B:Nat) (ss:List InstD) (v:Value) (w:World) (hl:Small 1048576 ss) (ha:At w B v ss):
    Calls Tryz.prog 70 #[v] w fun e w'=>∃v',e=.returned v'∧At w' w.heap.size v' ss∧Own w' w.heap.size w'.heap.size v' ss.length ss∧Below w.heap.size w w':=by
 obtain ⟨a,cap,rfl⟩:=ha.slice
 have HA:=hid ha
 have HL:=hid hl
 have hlen:=hl.1
 clear ha hl
 have hmk:=Nu.make_row (P:=Tryz.prog) Tryz.underlying25 infoR ss.length (by omega) (by omega)
 go_enter Tryz.func70,Tryz.ntmps70
 go_wp2
 go_loopw [4] (fun i wr=>∃(k:Nat) (f:Nat→Value),i=.int .i64 k∧k≤ss.length∧Hid (wr.rowIs w.heap.size 114 (ss.length*6) f)∧Hid (∀j (hj:j<ss.length),j<k→cellsOk wr (w.heap.size+1) f j ss[j])∧Hid (∀j (hj:j<ss.length),j<k→Ch.Rows3 wr (w.heap.size+1) wr.heap.size (f (j*6+3)) (f (j*6+4)) (f (j*6+5)) ss[j].chart)∧Below w.heap.size w wr) (fun i _=>ss.length - (intOf i).toNat)
 case atStart=>
  obtain ⟨f,hf⟩:=Nu.made_row w (Value.agg #[.int .i64 0,.int .i64 0,.int .i64 0,.slice none 0 0,.slice none 0 0,.slice none 0 0]).cells (ss.length*6) 114
  exact ⟨0,f,rfl,Nat.zero_le _,hf,fun j _ h=>by omega,fun j _ h=>by omega,(Below.refl _ _).alloc (Nat.le_refl _) _⟩
 case round=>
  obtain ⟨k,f,rfl,hkl,HR,HF,HW,hbel⟩:=hrel
  by_cases hlt:k<ss.length
  ·obtain ⟨g,o,v1,v2,v3,rfl,hg,c0,c1,c2,c3,c4,c5,hv⟩:=(HA.out.below hbel).at hlt
   obtain ⟨a21,k21,rfl⟩:=hv.vars.slice
   obtain ⟨a22,k22,rfl⟩:=hv.marks.slice
   obtain ⟨a23,k23,rfl⟩:=hv.dues.slice
   have HV:=hid hv
   clear hv
   have hs1:=hid (HL.out.at hlt)
   have q1:(k:Int)<(ss.length:Int):=by omega
   go_wp2_with fail
   refine (toOne B ss[k] _ _ _ _ hs1.out HV.out).mono ?_
   rintro e w1 ⟨u1,u2,u3,rfl,hux,hox,hb1⟩
   have hlt1:=HR.out.lt
   obtain ⟨a41,k41,rfl⟩:=hux.vars.slice
   obtain ⟨a42,k42,rfl⟩:=hux.marks.slice
   obtain ⟨a43,k43,rfl⟩:=hux.dues.slice
   have hR1:w1.rowIs w.heap.size 114 (ss.length*6) f:=HR.out.of_block (hb1.block _ HR.out.lt)
   have d0:=hR1.cell (i:=k*6) (by omega)
   have f0:=hR1.frozen (k*6)
   have d1:=hR1.cell (i:=k*6+1) (by omega)
   have f1:=hR1.frozen (k*6+1)
   have d2:=hR1.cell (i:=k*6+2) (by omega)
   have f2:=hR1.frozen (k*6+2)
   have d3:=hR1.cell (i:=k*6+3) (by omega)
   have f3:=hR1.frozen (k*6+3)
   have d4:=hR1.cell (i:=k*6+4) (by omega)
   have f4:=hR1.frozen (k*6+4)
   have d5:=hR1.cell (i:=k*6+5) (by omega)
   have f5:=hR1.frozen (k*6+5)
   have hF1:∀j (hj:j<ss.length),j<k→cellsOk w1 (w.heap.size+1) f j ss[j]:=fun j hj hjk=>by
    obtain ⟨q0,q1,q2,qx⟩:=HF.out j hj hjk
    exact ⟨q0,q1,q2,qx.below hb1⟩
   have hW1:∀j (hj:j<ss.length),j<k→Ch.Rows3 w1 (w.heap.size+1) w1.heap.size (f (j*6+3)) (f (j*6+4)) (f (j*6+5)) ss[j].chart:=fun j hj hjk=>
    own1Mono (own1Kept (HW.out j hj hjk) (fun b _ _ hl=>hb1.block b hl)) (Nat.le_refl _) hb1.size
   obtain ⟨f',hR2,hF2,hW2⟩:=stepR (k:=k) hR1 hlt hF1 hW1 (hux.mono hlt1) (own1Mono hox hlt1 (Nat.le_refl _))
   have HR2:=hid hR2
   have HF2:=hid hF2
   have HW2:Hid (∀j (hj:j<ss.length),j<k+1→Ch.Rows3 (putR w1 w.heap.size k ss[k] (.slice a41 ss[k].chart.vars.length k41) (.slice a42 ss[k].chart.marks.length k42) (.slice a43 ss[k].chart.dues.length k43)) (w.heap.size+1) (putR w1 w.heap.size k ss[k] (.slice a41 ss[k].chart.vars.length k41) (.slice a42 ss[k].chart.marks.length k42) (.slice a43 ss[k].chart.dues.length k43)).heap.size (f' (j*6+3)) (f' (j*6+4)) (f' (j*6+5)) ss[j].chart):=hid (by rw [size_putR];exact hW2)
   have HB:Hid (Below w.heap.size w (putR w1 w.heap.size k ss[k] (.slice a41 ss[k].chart.vars.length k41) (.slice a42 ss[k].chart.marks.length k42) (.slice a43 ss[k].chart.dues.length k43))):=hid (below_putR (hbel.trans (hb1.mono hbel.size)) (Nat.le_refl _))
   clear hR1 hR2 hF2 hF1 hW1 hW2 hux hox
   unfold putR at HR2 HF2 HW2 HB
   go_wp2
   exact ⟨⟨k+1,f',by simp,by omega,HR2,HF2,HW2,HB.out⟩,by simp [intOf];omega⟩
  ·have HX:Hid (At wr w.heap.size (.slice (some ⟨w.heap.size,0,none⟩) ss.length ss.length) ss):=row_recs HR.out (fun j hj=>HF.out j hj (by omega)) _ (Nat.le_refl _) (by unfold maxLen;omega)
   go_wp2
   go_ret
   exact ⟨_,rfl,HX.out,⟨w.heap.size,f,rfl,Nat.le_refl _,HR.out.lt,HR.out,fun j hj=>HW.out j hj (by omega)⟩,hbel⟩
end Ei
end Go.Proofs.YtccklgopcjilcaaGreatDoor
/- The law's comparisons of instances; an argument that is a list of them, as it lies in memory. -/
namespace Go.Proofs.YtccklgopcjilcaaGreatDoor
open Go.RowKit Go.Deep
set_option linter.unusedVariables false
namespace Ei
open Ex (hid)
open Nd (lt_of_cell)
open St (StepD)
set_option maxRecDepth 100000 in
set_option maxHeartbeats 1000000 in
theorem eqOne (B1 B2:Nat) (x:InstD) (c1 c2 c3 e1 e2 e3:Value) (w:World) (hl:Small1 1048576 x) (h1:Ch.At w B1 c1 c2 c3 x.chart) (h2:Ch.At w B2 e1 e2 e3 x.chart):
    Calls Tryz.prog 125 #[.agg #[.int .i64 x.proc,.int .i64 x.chart.status,.int .i64 x.chart.now,c1,c2,c3],.agg #[.int .i64 x.proc,.int .i64 x.chart.status,.int .i64 x.chart.now,e1,e2,e3]] w fun e w'=>e=.returned (.bool true)∧Below w.heap.size w w':=by
 obtain ⟨a1,k1,rfl⟩:=h1.vars.slice
 obtain ⟨a2,k2,rfl⟩:=h1.marks.slice
 obtain ⟨a3,k3,rfl⟩:=h1.dues.slice
 obtain ⟨b1,l1,rfl⟩:=h2.vars.slice
 obtain ⟨b2,l2,rfl⟩:=h2.marks.slice
 obtain ⟨b3,l3,rfl⟩:=h2.dues.slice
 have hB:Below w.heap.size w ((w.alloc (.cells #[.int .i64 x.proc,.int .i64 x.chart.status,.int .i64 x.chart.now,.slice a1 x.chart.vars.length k1,.slice a2 x.chart.marks.length k2,.slice a3 x.chart.dues.length k3] 114)).alloc (.cells #[.int .i64 x.proc,.int .i64 x.chart.status,.int .i64 x.chart.now,.slice b1 x.chart.vars.length l1,.slice b2 x.chart.marks.length l2,.slice b3 x.chart.dues.length l3] 114)):=((Below.refl _ w).alloc (Nat.le_refl _) _).alloc (by simp) _
 have H1:=hid (h1.below hB)
 have H2:=hid (h2.below hB)
 have HB:=hid hB
 have HL:=hid hl
 clear h1 h2 hB hl
 have g0:(x.proc != x.proc)=false:=by simp
 go_enter Tryz.func125,Tryz.ntmps125
 go_wp2_with fail
 refine (Ch.eq B1 B2 x.chart _ _ _ _ _ _ _ HL.out H1.out H2.out).mono ?_
 rintro e w1 ⟨rfl,hb1⟩
 have HB1:=hid (HB.out.trans (hb1.mono HB.out.size))
 clear hb1
 go_wp2
 go_ret
 exact ⟨rfl,HB1.out⟩
set_option maxRecDepth 100000 in
set_option maxHeartbeats 2000000 in
theorem eqS (B1 B2:Nat) (ss:List InstD) (v1 v2:Value) (w:World) (hl:Small 1048576 ss) (h1:At w B1 v1 ss) (h2:At w B2 v2 ss):
    Calls Tryz.prog 77 #[v1,v2] w fun e w'=>e=.returned (.bool true)∧Below w.heap.size w w':=by
 obtain ⟨a1,c1,rfl⟩:=h1.slice
 obtain ⟨a2,c2,rfl⟩:=h2.slice
 have H1:=hid h1
 have H2:=hid h2
 have HL:=hid hl
 have hlen:=hl.1
 clear h1 h2 hl
 have hb:((ss.length:Int) != (ss.length:Int))=false:=by simp
 go_enter Tryz.func77,Tryz.ntmps77
 go_wp2
 go_loopw [5] (fun i wr=>∃k:Nat,i=.int .i64 k∧k≤ss.length∧Below w.heap.size w wr) (fun i _=>ss.length - (intOf i).toNat)
 case atStart=>exact ⟨0,rfl,Nat.zero_le _,Below.refl _ _⟩
 case round=>
  obtain ⟨k,rfl,hk,hbel⟩:=hrel
  by_cases hlt:k<ss.length
  ·obtain ⟨g1,o1,c1,c2,c3,rfl,hg1,p0,p1,p2,p3,p4,p5,hc1⟩:=(H1.out.below hbel).at hlt
   obtain ⟨g2,o2,e1,e2,e3,rfl,hg2,t0,t1,t2,t3,t4,t5,hc2⟩:=(H2.out.below hbel).at hlt
   have hsm:=HL.out.at hlt
   have HE:Hid (∀w1:World,Below wr.heap.size wr w1→Calls Tryz.prog 125 #[.agg #[.int .i64 ss[k].proc,.int .i64 ss[k].chart.status,.int .i64 ss[k].chart.now,c1,c2,c3],.agg #[.int .i64 ss[k].proc,.int .i64 ss[k].chart.status,.int .i64 ss[k].chart.now,e1,e2,e3]] w1 fun e w'=>e=.returned (.bool true)∧Below w1.heap.size w1 w'):=fun w1 h=>eqOne B1 B2 ss[k] c1 c2 c3 e1 e2 e3 w1 hsm (hc1.below h) (hc2.below h)
   obtain ⟨a1,k1,rfl⟩:=hc1.vars.slice
   obtain ⟨a2,k2,rfl⟩:=hc1.marks.slice
   obtain ⟨a3,k3,rfl⟩:=hc1.dues.slice
   obtain ⟨b1,l1,rfl⟩:=hc2.vars.slice
   obtain ⟨b2,l2,rfl⟩:=hc2.marks.slice
   obtain ⟨b3,l3,rfl⟩:=hc2.dues.slice
   clear hc1 hc2 hsm
   have t1:(k:Int)<(ss.length:Int):=by omega
   go_wp2
   go_region_with ((go_at_call 125;refine (HE.out _ ?_).mono ?_;exact (Below.refl wr.heap.size wr).drew;rintro e w1 ⟨rfl,hb1⟩;have hbb:Below wr.heap.size wr w1:=((Below.refl wr.heap.size wr).drew).trans hb1))
   all_goals go_wp2
   all_goals exact ⟨⟨k+1,by simp,by omega,hbel.trans (hbb.mono hbel.size)⟩,by simp [intOf];omega⟩
  ·go_wp2
   go_ret
   exact ⟨rfl,hbel⟩
theorem cellsR:Tryz.prog.cellsOf 181=6:=by kernel_rfl
theorem cellsI:Tryz.prog.cellsOf 2=1:=by kernel_rfl
theorem cellsC:Tryz.prog.cellsOf 179=5:=by kernel_rfl
set_option maxRecDepth 100000 in
theorem open_one {H:Type} {enc:TypeId × Value→H} {w:World} {base:Nat} {spare:Nat→Bool} {held:Bool} {fuel:Nat} {cs:List Value} {x:DataW H × List MemPlace} (h:DataW.trod enc Tryz.prog w base spare held fuel 181 cs=some x):
    ∃(s:InstD) (v1 v2 v3:Value),cs=[.int .i64 s.proc,.int .i64 s.chart.status,.int .i64 s.chart.now,v1,v2,v3]∧Ch.At w 0 v1 v2 v3 s.chart∧Ok1 s:=by
 obtain ⟨xs,n,rfl,_,hlen,hxl,hf⟩:=DataW.trod_struct Tryz.underlying181 h
 have h0:=hf 0 _ rfl
 have h1:=hf 1 _ rfl
 rw [cellsR] at hlen
 match cs,hlen with
 | [a,b,c,d,e,f],_=>
  match xs,hxl with
  | [x0,x1],_=>
   simp [cellsI,cellsC] at h0 h1
   obtain ⟨n0,e0⟩:=Nu.open_one h0
   obtain ⟨r,v1,v2,v3,e1,g1,g2⟩:=Ch.open_all h1
   cases e0
   cases e1
   exact ⟨⟨n0,r⟩,d,e,f,rfl,g1,g2⟩
set_option maxRecDepth 100000 in
theorem open_all {H:Type} {enc:TypeId × Value→H} {w:World} {base:Nat} {spare:Nat→Bool} {held:Bool} {fuel:Nat} {v:Value} {x:DataW H × List MemPlace} (h:DataW.trod enc Tryz.prog w base spare held fuel 45 [v]=some x):
    ∃ss,At w 0 v ss∧Ok ss∧ss.length≤maxLen:=by
 rcases open_slice Tryz.underlying45 h with ⟨hcs,_⟩ | ⟨a,len,cap,m,n,D,Pl,hcs,hb,hl,hcm,hm,_,hx⟩
 ·obtain rfl:v=.slice none 0 0:=by simpa using hcs
  exact ⟨[],⟨none,0,rfl,Nat.le_refl _,Nat.zero_le _,.inl rfl⟩,fun _ h=>by (cases h),Nat.zero_le _⟩
 ·obtain rfl:v=.slice (some a) len cap:=by simpa using hcs
  have hlm:len≤m:=by rw [hm];split <;> omega
  rw [cellsR] at hx
  have each:∀i,i<len→∃q:InstD,(∃v1 v2 v3,w.cell? (a.add (i*6))=some (.int .i64 q.proc)∧w.cell? (a.add (i*6+1))=some (.int .i64 q.chart.status)∧w.cell? (a.add (i*6+2))=some (.int .i64 q.chart.now)∧w.cell? (a.add (i*6+3))=some v1∧w.cell? (a.add (i*6+4))=some v2∧w.cell? (a.add (i*6+5))=some v3∧Ch.At w 0 v1 v2 v3 q.chart)∧Ok1 q:=fun i hi=>by
   obtain ⟨cs',c0,d0⟩:=hx i (by omega)
   obtain ⟨e,v1,v2,v3,rfl,g1,g3⟩:=open_one d0
   obtain ⟨_,_,hc⟩:=World.cells?_some c0
   have k0:=hc 0 (by omega)
   have k1:=hc 1 (by omega)
   have k2:=hc 2 (by omega)
   have k3:=hc 3 (by omega)
   have k4:=hc 4 (by omega)
   have k5:=hc 5 (by omega)
   rw [Nu.add_add] at k0 k1 k2 k3 k4 k5
   exact ⟨e,⟨v1,v2,v3,k0,k1,k2,k3,k4,k5,g1⟩,g3⟩
  haveI:Inhabited (InstD):=⟨⟨0,⟨0,0,[],[],[]⟩⟩⟩
  obtain ⟨F,hF⟩:=choose_lt each
  refine ⟨(List.range len).map F,?_,?_,by simp;omega⟩
  ·refine ⟨some a,cap,by simp,by simpa using hl,hcm,?_⟩
   rcases Nat.eq_zero_or_pos len with h0 | h0
   ·exact .inl (by simp [h0])
   ·right
    obtain ⟨b,off,spot⟩:=a
    obtain ⟨⟨_,_,_,hc0,_⟩,_⟩:=hF 0 h0
    have hspot:spot=none:=by simpa [Addr.add] using World.cell?_spot hc0
    subst hspot
    refine ⟨b,off,rfl,Nat.zero_le _,lt_of_cell hc0,fun i hi=>?_⟩
    have hi':i<len:=by simpa using hi
    obtain ⟨⟨v1,v2,v3,h2⟩,_⟩:=hF i hi'
    simp only [List.getElem_map,List.getElem_range]
    simp only [Go.WideShapes.add_plain,←Nat.add_assoc] at h2 ⊢
    exact ⟨v1,v2,v3,h2⟩
  ·intro q hq
   obtain ⟨i,hi,rfl⟩:=List.mem_map.1 hq
   exact (hF i (by simpa using hi)).2
end Ei
end Go.Proofs.YtccklgopcjilcaaGreatDoor
