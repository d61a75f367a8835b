/- Laid together: StB, StM. -/
import Derived.Test.YtccklgopcjilcaaGreatDoorJCT2
import Derived.Lib.SlBytesConst
import Derived.Laws.OwnMore
/- The law's copies of steps. -/
namespace Go.Proofs.YtccklgopcjilcaaGreatDoor
open Go.RowKit Go.Deep
set_option linter.unusedVariables false
namespace St
open Ex (hid)
open Nd (NodeD)
theorem old_cell {B:Nat} {W w:World} (h:Below B W w) {b o:Nat} (hb:b<B) {v:Value} (hc:W.cell? ⟨b,o,none⟩=some v):w.cell? ⟨b,o,none⟩=some v:=(h.cell (p:=⟨b,o,none⟩) hb).trans hc
theorem old_free {B:Nat} {W w:World} (h:Below B W w) {b o:Nat} (hb:b<B) (hc:W.frozen? ⟨b,o,none⟩=false):w.frozen? ⟨b,o,none⟩=false:=(h.frozen (p:=⟨b,o,none⟩) hb).trans hc
theorem setB {B:Nat} {W w:World} (h:Below B W w) {b o:Nat} (hb:B≤b) (x:Value):Below B W (w.setCell ⟨b,o,none⟩ x):=h.setCell hb x
theorem ownKept {w w':World} {B C m:Nat} {v:Value} (h:Nd.Own w B C v m) (hb:∀g,B≤g→g<C→g<w.heap.size→w'.heap[g]?=w.heap[g]?):Nd.Own w' B C v m:=by
 obtain ⟨g,f,rfl,h1,h2,h3⟩:=h
 exact ⟨g,f,rfl,h1,h2,h3.of_block (hb g h1 h2 h3.lt)⟩
theorem ownBelow {w w':World} {B C m:Nat} {v:Value} (h:Nd.Own w B C v m) (hb:Below w.heap.size w w'):Nd.Own w' B C v m:=ownKept h (fun g _ _ hg=>hb.block g hg)
theorem ownMono {w:World} {B B' C C' m:Nat} {v:Value} (h:Nd.Own w B C v m) (hB:B'≤B) (hC:C≤C'):Nd.Own w B' C' v m:=by
 obtain ⟨g,f,rfl,h1,h2,h3⟩:=h
 exact ⟨g,f,rfl,Nat.le_trans hB h1,Nat.lt_of_lt_of_le h2 hC,h3⟩
theorem ownSet {w:World} {B C m b o:Nat} {v:Value} (h:Nd.Own w B C v m) (hb:b<B) (x:Value):Nd.Own (w.setCell ⟨b,o,none⟩ x) B C v m:=
 ownKept h (fun g hg _ _=>Below.heap_setCell _ _ _ _ (by dsimp only;omega))
theorem infoStep:(Tryz.prog.info? 164).map (fun i=>(i.zero,i.size,i.bytes))=some (some (Value.agg #[.int .i64 0,.int .i64 0,.string { data:=#[] },.int .i64 0,.slice none 0 0,.slice none 0 0]),6,88):=by kernel_rfl
set_option maxRecDepth 100000 in
set_option maxHeartbeats 2000000 in
theorem toOne (B:Nat) (x:StepD) (vc ve:Value) (w:World) (hl:x.cond.length≤1048576) (hl2:x.expr.length≤1048576) (hc:Nd.At w B vc x.cond) (he:Nd.At w B ve x.expr):
    Calls Tryz.prog 143 #[.agg #[.int .i64 x.kind,.int .i64 x.parent,.string x.name,.int .i64 x.arg,vc,ve]] w fun e w'=>∃uc ue,e=.returned (.agg #[.int .i64 x.kind,.int .i64 x.parent,.string x.name,.int .i64 x.arg,uc,ue])∧Nd.At w' w.heap.size uc x.cond∧Nd.At w' w.heap.size ue x.expr∧
     Nd.Own w' w.heap.size w'.heap.size uc x.cond.length∧Nd.Own w' w.heap.size w'.heap.size ue x.expr.length∧Below w.heap.size w w':=by
 obtain ⟨a,cap,rfl⟩:=hc.slice
 obtain ⟨a2,cap2,rfl⟩:=he.slice
 have HC:=hid hc
 have HE:=hid he
 clear hc he
 go_enter Tryz.func143,Tryz.ntmps143
 go_wp2_with fail
 refine (Nd.toS2 B x.cond _ _ hl (HC.out.below ?hB)).mono ?_
 case hB=>exact (((Below.refl _ w).alloc (Nat.le_refl _) _).alloc (by simp) _).alloc (by simp;omega) _
 rintro e w1 ⟨uc,rfl,hu,hown,hb1⟩
 obtain ⟨a3,cap3,rfl⟩:=hu.slice
 simp only [World.size_alloc] at hb1 hu hown
 have HU:=hid hu
 have HOW:=hid hown
 clear hu hown
 have hz:w.heap.size+1+1+1≤w1.heap.size:=by have:=hb1.size;simpa using this
 have l0:w.heap.size<w1.heap.size:=by omega
 have l1:w.heap.size+1<w1.heap.size:=by omega
 have l2:w.heap.size+1+1<w1.heap.size:=by omega
 have p5:=old_cell hb1 (b:=w.heap.size) (o:=5) (v:=.slice a2 x.expr.length cap2) (by omega) (by go_simp)
 have c0:=old_cell hb1 (b:=w.heap.size+1+1) (o:=0) (v:=.int .i64 x.kind) (by omega) (by go_simp)
 have c1:=old_cell hb1 (b:=w.heap.size+1+1) (o:=1) (v:=.int .i64 x.parent) (by omega) (by go_simp)
 have c2:=old_cell hb1 (b:=w.heap.size+1+1) (o:=2) (v:=.string x.name) (by omega) (by go_simp)
 have c3:=old_cell hb1 (b:=w.heap.size+1+1) (o:=3) (v:=.int .i64 x.arg) (by omega) (by go_simp)
 have c4:=old_cell hb1 (b:=w.heap.size+1+1) (o:=4) (v:=.slice none 0 0) (by omega) (by go_simp)
 have c5:=old_cell hb1 (b:=w.heap.size+1+1) (o:=5) (v:=.slice none 0 0) (by omega) (by go_simp)
 have d0:=old_cell hb1 (b:=w.heap.size+1) (o:=0) (v:=.int .i64 0) (by omega) (by go_simp)
 have d1:=old_cell hb1 (b:=w.heap.size+1) (o:=1) (v:=.int .i64 0) (by omega) (by go_simp)
 have d2:=old_cell hb1 (b:=w.heap.size+1) (o:=2) (v:=.string { data:=#[] }) (by omega) (by go_simp)
 have d3:=old_cell hb1 (b:=w.heap.size+1) (o:=3) (v:=.int .i64 0) (by omega) (by go_simp)
 have d4:=old_cell hb1 (b:=w.heap.size+1) (o:=4) (v:=.slice none 0 0) (by omega) (by go_simp)
 have d5:=old_cell hb1 (b:=w.heap.size+1) (o:=5) (v:=.slice none 0 0) (by omega) (by go_simp)
 have f4:=old_free hb1 (b:=w.heap.size+1+1) (o:=4) (by omega) (by go_simp)
 have f5:=old_free hb1 (b:=w.heap.size+1+1) (o:=5) (by omega) (by go_simp)
 have e0:=old_free hb1 (b:=w.heap.size+1) (o:=0) (by omega) (by go_simp)
 have e1:=old_free hb1 (b:=w.heap.size+1) (o:=1) (by omega) (by go_simp)
 have e2:=old_free hb1 (b:=w.heap.size+1) (o:=2) (by omega) (by go_simp)
 have e3:=old_free hb1 (b:=w.heap.size+1) (o:=3) (by omega) (by go_simp)
 have e4:=old_free hb1 (b:=w.heap.size+1) (o:=4) (by omega) (by go_simp)
 have e5:=old_free hb1 (b:=w.heap.size+1) (o:=5) (by omega) (by go_simp)
 have hB0:Below w.heap.size w w1:=((((Below.refl _ w).alloc (Nat.le_refl _) _).alloc (by simp) _).alloc (by simp;omega) _).trans (hb1.mono (by omega))
 have HB0:=hid hB0
 have hB1:Below w.heap.size w (w1.setCell ⟨w.heap.size+1+1,4,none⟩ (.slice a3 x.cond.length cap3)):=setB hB0 (by omega) _
 have HE1:=hid (HE.out.below hB1)
 have HB1:=hid hB1
 have HU1:=hid (HU.out.setBelow (b:=w.heap.size+1+1) (o:=4) (by omega) (.slice a3 x.cond.length cap3))
 have HOW1:=hid (ownSet (b:=w.heap.size+1+1) (o:=4) HOW.out (by omega) (.slice a3 x.cond.length cap3))
 have hs1:(w1.setCell ⟨w.heap.size+1+1,4,none⟩ (.slice a3 x.cond.length cap3)).heap.size=w1.heap.size:=by simp [World.setCell]
 have k0:(w1.setCell ⟨w.heap.size+1+1,4,none⟩ (.slice a3 x.cond.length cap3)).cell? ⟨w.heap.size+1+1,0,none⟩=some (.int .i64 x.kind):=by go_simp
 have k1:(w1.setCell ⟨w.heap.size+1+1,4,none⟩ (.slice a3 x.cond.length cap3)).cell? ⟨w.heap.size+1+1,1,none⟩=some (.int .i64 x.parent):=by go_simp
 have k2:(w1.setCell ⟨w.heap.size+1+1,4,none⟩ (.slice a3 x.cond.length cap3)).cell? ⟨w.heap.size+1+1,2,none⟩=some (.string x.name):=by go_simp
 have k3:(w1.setCell ⟨w.heap.size+1+1,4,none⟩ (.slice a3 x.cond.length cap3)).cell? ⟨w.heap.size+1+1,3,none⟩=some (.int .i64 x.arg):=by go_simp
 have k4:(w1.setCell ⟨w.heap.size+1+1,4,none⟩ (.slice a3 x.cond.length cap3)).cell? ⟨w.heap.size+1+1,4,none⟩=some (.slice a3 x.cond.length cap3):=by go_simp
 have k5:(w1.setCell ⟨w.heap.size+1+1,4,none⟩ (.slice a3 x.cond.length cap3)).cell? ⟨w.heap.size+1+1,5,none⟩=some (.slice none 0 0):=by go_simp
 have m0:(w1.setCell ⟨w.heap.size+1+1,4,none⟩ (.slice a3 x.cond.length cap3)).cell? ⟨w.heap.size+1,0,none⟩=some (.int .i64 0):=by go_simp
 have m1:(w1.setCell ⟨w.heap.size+1+1,4,none⟩ (.slice a3 x.cond.length cap3)).cell? ⟨w.heap.size+1,1,none⟩=some (.int .i64 0):=by go_simp
 have m2:(w1.setCell ⟨w.heap.size+1+1,4,none⟩ (.slice a3 x.cond.length cap3)).cell? ⟨w.heap.size+1,2,none⟩=some (.string { data:=#[] }):=by go_simp
 have m3:(w1.setCell ⟨w.heap.size+1+1,4,none⟩ (.slice a3 x.cond.length cap3)).cell? ⟨w.heap.size+1,3,none⟩=some (.int .i64 0):=by go_simp
 have m4:(w1.setCell ⟨w.heap.size+1+1,4,none⟩ (.slice a3 x.cond.length cap3)).cell? ⟨w.heap.size+1,4,none⟩=some (.slice none 0 0):=by go_simp
 have m5:(w1.setCell ⟨w.heap.size+1+1,4,none⟩ (.slice a3 x.cond.length cap3)).cell? ⟨w.heap.size+1,5,none⟩=some (.slice none 0 0):=by go_simp
 have n5:(w1.setCell ⟨w.heap.size+1+1,4,none⟩ (.slice a3 x.cond.length cap3)).frozen? ⟨w.heap.size+1+1,5,none⟩=false:=by go_simp
 have n0:∀o,o<6→(w1.setCell ⟨w.heap.size+1+1,4,none⟩ (.slice a3 x.cond.length cap3)).frozen? ⟨w.heap.size+1,o,none⟩=false:=fun o ho=>by
  have:w1.frozen? ⟨w.heap.size+1,o,none⟩=false:=by
   rcases (by omega:o=0∨o=1∨o=2∨o=3∨o=4∨o=5) with rfl | rfl | rfl | rfl | rfl | rfl <;> assumption
  go_simp
 go_wp2_with fail
 clear hB0 hB1 HC HE hb1 HU HOW c0 c1 c2 c3 c4 c5 d0 d1 d2 d3 d4 d5 e0 e1 e2 e3 e4 e5 f4 f5 p5
 generalize w1.setCell ⟨w.heap.size+1+1,4,none⟩ (.slice a3 x.cond.length cap3)=W1 at *
 refine (Nd.toS2 B x.expr _ _ hl2 HE1.out).mono ?_
 rintro e w2 ⟨ue,rfl,hu2,hown2,hb2⟩
 obtain ⟨a4,cap4,rfl⟩:=hu2.slice
 have hs2:=hb2.size
 have j0:w.heap.size+1<w2.heap.size:=by omega
 have j1:w.heap.size+1+1<w2.heap.size:=by omega
 have c0:=old_cell hb2 (by omega) k0
 have c1:=old_cell hb2 (by omega) k1
 have c2:=old_cell hb2 (by omega) k2
 have c3:=old_cell hb2 (by omega) k3
 have c4:=old_cell hb2 (by omega) k4
 have c5:=old_cell hb2 (by omega) k5
 have d0:=old_cell hb2 (by omega) m0
 have d1:=old_cell hb2 (by omega) m1
 have d2:=old_cell hb2 (by omega) m2
 have d3:=old_cell hb2 (by omega) m3
 have d4:=old_cell hb2 (by omega) m4
 have d5:=old_cell hb2 (by omega) m5
 have f5:=old_free hb2 (by omega) n5
 have e0:=old_free hb2 (by omega) (n0 0 (by omega))
 have e1:=old_free hb2 (by omega) (n0 1 (by omega))
 have e2:=old_free hb2 (by omega) (n0 2 (by omega))
 have e3:=old_free hb2 (by omega) (n0 3 (by omega))
 have e4:=old_free hb2 (by omega) (n0 4 (by omega))
 have e5:=old_free hb2 (by omega) (n0 5 (by omega))
 have HU2:=hid hu2
 have HOW2:=hid hown2
 have HUx:=hid (HU1.out.below hb2)
 have HOWx:=hid (ownBelow HOW1.out hb2)
 have HB2:=hid (HB1.out.trans (hb2.mono HB1.out.size))
 clear k0 k1 k2 k3 k4 k5 m0 m1 m2 m3 m4 m5 n0 n5 hu2 hown2 hb2 HU1 HOW1 HB1
 go_wp2
 refine bodyPost_ret (v:=.agg #[.int .i64 x.kind,.int .i64 x.parent,.string x.name,.int .i64 x.arg,.slice a3 x.cond.length cap3,.slice a4 x.expr.length cap4]) (by simp [results,Tryz.results143,go_sem,d0,d1,d2,d3,d4,d5]) rfl ⟨_,_,rfl,?_,?_,?_,?_,?_⟩
 ·exact (((((((HUx.out.setBelow (by omega) _).setBelow (by omega) _).setBelow (by omega) _).setBelow (by omega) _).setBelow (by omega) _).setBelow (by omega) _).setBelow (by omega) _).mono (by omega)
 ·exact (((((((HU2.out.setBelow (by omega) _).setBelow (by omega) _).setBelow (by omega) _).setBelow (by omega) _).setBelow (by omega) _).setBelow (by omega) _).setBelow (by omega) _).mono (by omega)
 ·exact ownMono (ownSet (ownSet (ownSet (ownSet (ownSet (ownSet (ownSet HOWx.out (by omega) _) (by omega) _) (by omega) _) (by omega) _) (by omega) _) (by omega) _) (by omega) _) (by omega) (by simp [World.setCell];omega)
 ·exact ownMono (ownSet (ownSet (ownSet (ownSet (ownSet (ownSet (ownSet HOW2.out (by omega) _) (by omega) _) (by omega) _) (by omega) _) (by omega) _) (by omega) _) (by omega) _) (by omega) (by simp [World.setCell])
 ·exact setB (setB (setB (setB (setB (setB (setB HB2.out (by omega) _) (by omega) _) (by omega) _) (by omega) _) (by omega) _) (by omega) _) (by omega) _
def Own (w:World) (B C:Nat) (v:Value) (n:Nat) (mc me:Nat→Nat):Prop:=∃g f,v=.slice (some ⟨g,0,none⟩) n n∧B≤g∧g<C∧w.rowIs g 164 (n*6) f∧∀j,j<n→Nd.Own w (g+1) C (f (j*6+4)) (mc j)∧Nd.Own w (g+1) C (f (j*6+5)) (me j)
def lenC (ss:List StepD) (j:Nat):Nat:=match ss[j]? with
 | some e=>e.cond.length
 | none=>0
def lenE (ss:List StepD) (j:Nat):Nat:=match ss[j]? with
 | some e=>e.expr.length
 | none=>0
theorem lenC_eq {ss:List StepD} {j:Nat} (h:j<ss.length):lenC ss j=ss[j].cond.length:=by unfold lenC;rw [List.getElem?_eq_getElem h]
theorem lenE_eq {ss:List StepD} {j:Nat} (h:j<ss.length):lenE ss j=ss[j].expr.length:=by unfold lenE;rw [List.getElem?_eq_getElem h]
theorem Own.kept {w w':World} {B C n:Nat} {v:Value} {mc me:Nat→Nat} (h:Own w B C v n mc me) (hb:∀g,B≤g→g<C→g<w.heap.size→w'.heap[g]?=w.heap[g]?):Own w' B C v n mc me:=by
 obtain ⟨g,f,rfl,h1,h2,h3,h4⟩:=h
 exact ⟨g,f,rfl,h1,h2,h3.of_block (hb g h1 h2 h3.lt),fun j hj=>⟨ownKept (h4 j hj).1 (fun b hb1 hb2 hb3=>hb b (by omega) hb2 hb3),ownKept (h4 j hj).2 (fun b hb1 hb2 hb3=>hb b (by omega) hb2 hb3)⟩⟩
theorem Own.below {w w':World} {B C n:Nat} {v:Value} {mc me:Nat→Nat} (h:Own w B C v n mc me) (hb:Below w.heap.size w w'):Own w' B C v n mc me:=h.kept (fun g _ _ hg=>hb.block g hg)
def cellsOk (w:World) (B:Nat) (f:Nat→Value) (j:Nat) (s:StepD):Prop:=f (j*6)=.int .i64 s.kind∧f (j*6+1)=.int .i64 s.parent∧f (j*6+2)=.string s.name∧f (j*6+3)=.int .i64 s.arg∧Nd.At w B (f (j*6+4)) s.cond∧Nd.At w B (f (j*6+5)) s.expr
theorem row_steps {w:World} {g:Nat} {t:TypeId} {f:Nat→Value} {ss:List StepD} (h:w.rowIs g t (ss.length*6) f)
    (hf:∀j (hj:j<ss.length),cellsOk w (g+1) f j ss[j]) (cap:Nat) (hc:ss.length≤cap) (hm:cap≤maxLen):At w g (.slice (some ⟨g,0,none⟩) ss.length cap) ss:=by
 refine ⟨_,_,rfl,hc,hm,.inr ⟨g,0,rfl,Nat.le_refl _,h.lt,fun i hi=>?_⟩⟩
 obtain ⟨h0,h1,h2,h3,h4,h5⟩:=hf i hi
 rw [Nat.zero_add,←h0,←h1,←h2,←h3]
 exact ⟨h.cell (by omega),h.cell (by omega),h.cell (by omega),h.cell (by omega),_,_,h.cell (by omega),h.cell (by omega),h4.mono (by omega),h5.mono (by omega)⟩
def put6 (w:World) (g k:Nat) (s:StepD) (vc ve:Value):World:=(((((w.setCell ⟨g,k*6,none⟩ (.int .i64 s.kind)).setCell ⟨g,k*6+1,none⟩ (.int .i64 s.parent)).setCell ⟨g,k*6+2,none⟩ (.string s.name)).setCell ⟨g,k*6+3,none⟩ (.int .i64 s.arg)).setCell ⟨g,k*6+4,none⟩ vc).setCell ⟨g,k*6+5,none⟩ ve
theorem set6 {w:World} {g:Nat} {t:TypeId} {n k:Nat} {f:Nat→Value} {vc ve:Value} {s:StepD} (h:w.rowIs g t n f):
    (put6 w g k s vc ve).rowIs g t n (fun i=>if i=k*6+5 then ve else if i=k*6+4 then vc else if i=k*6+3 then .int .i64 s.arg else if i=k*6+2 then .string s.name else if i=k*6+1 then .int .i64 s.parent else if i=k*6 then .int .i64 s.kind else f i):=
 (((((h.set (k*6) _).set (k*6+1) _).set (k*6+2) _).set (k*6+3) _).set (k*6+4) _).set (k*6+5) _
theorem at_put6 {w:World} {B g k:Nat} {s:StepD} {vc ve v:Value} {ns:List NodeD} (h:Nd.At w B v ns) (hg:g<B):Nd.At (put6 w g k s vc ve) B v ns:=
 (((((h.setBelow hg _).setBelow hg _).setBelow hg _).setBelow hg _).setBelow hg _).setBelow hg _
theorem own_put6 {w:World} {B C g k m:Nat} {s:StepD} {vc ve v:Value} (h:Nd.Own w B C v m) (hg:g<B):Nd.Own (put6 w g k s vc ve) B C v m:=
 ownSet (ownSet (ownSet (ownSet (ownSet (ownSet h hg _) hg _) hg _) hg _) hg _) hg _
theorem below_put6 {w W:World} {B g k:Nat} {s:StepD} {vc ve:Value} (h:Below B W w) (hg:B≤g):Below B W (put6 w g k s vc ve):=
 setB (setB (setB (setB (setB (setB h hg _) hg _) hg _) hg _) hg _) hg _
theorem size_put6 {w:World} {g k:Nat} {s:StepD} {vc ve:Value}:(put6 w g k s vc ve).heap.size=w.heap.size:=by simp [put6,World.setCell]
theorem f6_old {k j:Nat} {f:Nat→Value} {vc ve:Value} {s:StepD} {c:Nat} (hj:j≠k) (hc:c<6):
    (fun i=>if i=k*6+5 then ve else if i=k*6+4 then vc else if i=k*6+3 then .int .i64 s.arg else if i=k*6+2 then .string s.name else if i=k*6+1 then .int .i64 s.parent else if i=k*6 then .int .i64 s.kind else f i) (j*6+c)=f (j*6+c):=by
 have h0:¬j*6+c=k*6:=by omega
 have h1:¬j*6+c=k*6+1:=by omega
 have h2:¬j*6+c=k*6+2:=by omega
 have h3:¬j*6+c=k*6+3:=by omega
 have h4:¬j*6+c=k*6+4:=by omega
 have h5:¬j*6+c=k*6+5:=by omega
 simp only [h0,h1,h2,h3,h4,h5,if_false]
theorem step6 {w:World} {g:Nat} {t:TypeId} {k C:Nat} {f:Nat→Value} {vc ve:Value} {ss:List StepD} (h:w.rowIs g t (ss.length*6) f) (hk:k<ss.length)
    (hf:∀j (hj:j<ss.length),j<k→cellsOk w (g+1) f j ss[j]) (hw:∀j (hj:j<ss.length),j<k→Nd.Own w (g+1) C (f (j*6+4)) ss[j].cond.length∧Nd.Own w (g+1) C (f (j*6+5)) ss[j].expr.length)
    (hc:Nd.At w (g+1) vc ss[k].cond) (he:Nd.At w (g+1) ve ss[k].expr) (oc:Nd.Own w (g+1) C vc ss[k].cond.length) (oe:Nd.Own w (g+1) C ve ss[k].expr.length):
    ∃f',(put6 w g k ss[k] vc ve).rowIs g t (ss.length*6) f'∧(∀j (hj:j<ss.length),j<k+1→cellsOk (put6 w g k ss[k] vc ve) (g+1) f' j ss[j])∧
     (∀j (hj:j<ss.length),j<k+1→Nd.Own (put6 w g k ss[k] vc ve) (g+1) C (f' (j*6+4)) ss[j].cond.length∧Nd.Own (put6 w g k ss[k] vc ve) (g+1) C (f' (j*6+5)) ss[j].expr.length):=by
 refine ⟨_,set6 (k:=k) (vc:=vc) (ve:=ve) (s:=ss[k]) h,fun j hj hjk=>?_,fun j hj hjk=>?_⟩
 ·by_cases e:j=k
  ·subst e
   exact ⟨by simp,by simp,by simp,by simp,by simpa using at_put6 hc (by omega),by simpa using at_put6 he (by omega)⟩
  ·obtain ⟨q0,q1,q2,q3,q4,q5⟩:=hf j hj (by omega)
   exact ⟨(f6_old (c:=0) e (by omega)).trans q0,(f6_old (c:=1) e (by omega)).trans q1,(f6_old (c:=2) e (by omega)).trans q2,(f6_old (c:=3) e (by omega)).trans q3,by rw [f6_old (c:=4) e (by omega)];exact at_put6 q4 (by omega),by rw [f6_old (c:=5) e (by omega)];exact at_put6 q5 (by omega)⟩
 ·by_cases e:j=k
  ·subst e
   exact ⟨by simpa using own_put6 oc (by omega),by simpa using own_put6 oe (by omega)⟩
  ·obtain ⟨q4,q5⟩:=hw j hj (by omega)
   refine ⟨?_,?_⟩
   ·have h:=own_put6 (k:=k) (s:=ss[k]) (vc:=vc) (ve:=ve) q4 (show g<g+1 by omega)
    rw [←f6_old (k:=k) (s:=ss[k]) (vc:=vc) (ve:=ve) (f:=f) (c:=4) e (by omega)] at h
    exact h
   ·have h:=own_put6 (k:=k) (s:=ss[k]) (vc:=vc) (ve:=ve) q5 (show g<g+1 by omega)
    rw [←f6_old (k:=k) (s:=ss[k]) (vc:=vc) (ve:=ve) (f:=f) (c:=5) e (by omega)] at h
    exact h
set_option maxRecDepth 100000 in
set_option maxHeartbeats 2000000 in
theorem toS2 (B:Nat) (ss:List StepD) (v:Value) (w:World) (hl:Small 1048576 ss) (ha:At w B v ss):
    Calls Tryz.prog 98 #[v] w fun e w'=>∃v',e=.returned v'∧At w' w.heap.size v' ss∧Own w' w.heap.size w'.heap.size v' ss.length (lenC ss) (lenE ss)∧Below w.heap.size w w':=by
 obtain ⟨a,cap,rfl⟩:=ha.slice
 have HA:=hid ha
 have HL:=hid hl
 have hlen:=hl.1
 clear ha hl
 have hmk:=Nd.make_row (P:=Tryz.prog) Tryz.underlying87 infoStep ss.length (by omega) (by omega)
 go_enter Tryz.func98,Tryz.ntmps98
 go_wp2
 go_loopw [4] (fun i wr=>∃(k:Nat) (f:Nat→Value),i=.int .i64 k∧k≤ss.length∧Hid (wr.rowIs w.heap.size 164 (ss.length*6) f)∧Hid (∀j (hj:j<ss.length),j<k→cellsOk wr (w.heap.size+1) f j ss[j])∧Hid (∀j (hj:j<ss.length),j<k→Nd.Own wr (w.heap.size+1) wr.heap.size (f (j*6+4)) ss[j].cond.length∧Nd.Own wr (w.heap.size+1) wr.heap.size (f (j*6+5)) ss[j].expr.length)∧Below w.heap.size w wr) (fun i _=>ss.length - (intOf i).toNat)
 case atStart=>
  obtain ⟨f,hf⟩:=Nd.made_row w (Value.agg #[.int .i64 0,.int .i64 0,.string { data:=#[] },.int .i64 0,.slice none 0 0,.slice none 0 0]).cells (ss.length*6) 164
  exact ⟨0,f,rfl,Nat.zero_le _,hf,fun j _ h=>by omega,fun j _ h=>by omega,(Below.refl _ _).alloc (Nat.le_refl _) _⟩
 case round=>
  obtain ⟨k,f,rfl,hkl,HR,HF,HW,hbel⟩:=hrel
  by_cases hlt:k<ss.length
  ·obtain ⟨g,o,vc,ve,rfl,hg,c0,c1,c2,c3,c4,c5,hvc,hve⟩:=(HA.out.below hbel).at hlt
   obtain ⟨a2,cap2,rfl⟩:=hvc.slice
   obtain ⟨a3,cap3,rfl⟩:=hve.slice
   have HV:=hid hvc
   have HE:=hid hve
   clear hvc hve
   have hsm:=HL.out.at hlt
   have hs1:=hsm.2.1
   have hs2:=hsm.2.2
   clear hsm
   have q1:(k:Int)<(ss.length:Int):=by omega
   go_wp2_with fail
   refine (toOne B ss[k] _ _ _ (by omega) (by omega) HV.out HE.out).mono ?_
   rintro e w1 ⟨uc,ue,rfl,huc,hue,hoc,hoe,hb1⟩
   have hlt1:=HR.out.lt
   obtain ⟨a4,cap4,rfl⟩:=huc.slice
   obtain ⟨a5,cap5,rfl⟩:=hue.slice
   have hR1:w1.rowIs w.heap.size 164 (ss.length*6) f:=HR.out.of_block (hb1.block _ HR.out.lt)
   have d0:=hR1.cell (i:=k*6) (by omega)
   have d1:=hR1.cell (i:=k*6+1) (by omega)
   have d2:=hR1.cell (i:=k*6+2) (by omega)
   have d3:=hR1.cell (i:=k*6+3) (by omega)
   have d4:=hR1.cell (i:=k*6+4) (by omega)
   have d5:=hR1.cell (i:=k*6+5) (by omega)
   have f0:=hR1.frozen (k*6)
   have f1:=hR1.frozen (k*6+1)
   have f2:=hR1.frozen (k*6+2)
   have f3:=hR1.frozen (k*6+3)
   have f4:=hR1.frozen (k*6+4)
   have f5:=hR1.frozen (k*6+5)
   have hF1:∀j (hj:j<ss.length),j<k→cellsOk w1 (w.heap.size+1) f j ss[j]:=fun j hj hjk=>by
    obtain ⟨q0,q1,q2,q3,q4,q5⟩:=HF.out j hj hjk
    exact ⟨q0,q1,q2,q3,q4.below hb1,q5.below hb1⟩
   have hW1:∀j (hj:j<ss.length),j<k→Nd.Own w1 (w.heap.size+1) w1.heap.size (f (j*6+4)) ss[j].cond.length∧Nd.Own w1 (w.heap.size+1) w1.heap.size (f (j*6+5)) ss[j].expr.length:=fun j hj hjk=>
    ⟨ownMono (ownBelow (HW.out j hj hjk).1 hb1) (Nat.le_refl _) hb1.size,ownMono (ownBelow (HW.out j hj hjk).2 hb1) (Nat.le_refl _) hb1.size⟩
   obtain ⟨f',hR2,hF2,hW2⟩:=step6 (k:=k) hR1 hlt hF1 hW1 (huc.mono hlt1) (hue.mono hlt1) (ownMono hoc hlt1 (Nat.le_refl _)) (ownMono hoe hlt1 (Nat.le_refl _))
   have HR2:=hid hR2
   have HF2:=hid hF2
   have HW2:Hid (∀j (hj:j<ss.length),j<k+1→Nd.Own (put6 w1 w.heap.size k ss[k] (.slice a4 ss[k].cond.length cap4) (.slice a5 ss[k].expr.length cap5)) (w.heap.size+1) (put6 w1 w.heap.size k ss[k] (.slice a4 ss[k].cond.length cap4) (.slice a5 ss[k].expr.length cap5)).heap.size (f' (j*6+4)) ss[j].cond.length∧Nd.Own (put6 w1 w.heap.size k ss[k] (.slice a4 ss[k].cond.length cap4) (.slice a5 ss[k].expr.length cap5)) (w.heap.size+1) (put6 w1 w.heap.size k ss[k] (.slice a4 ss[k].cond.length cap4) (.slice a5 ss[k].expr.length cap5)).heap.size (f' (j*6+5)) ss[j].expr.length):=hid (by rw [size_put6];exact hW2)
   have HB:Hid (Below w.heap.size w (put6 w1 w.heap.size k ss[k] (.slice a4 ss[k].cond.length cap4) (.slice a5 ss[k].expr.length cap5))):=hid (below_put6 (hbel.trans (hb1.mono hbel.size)) (Nat.le_refl _))
   clear hR1 hR2 hF2 hF1 hW1 hW2 huc hue hoc hoe
   unfold put6 at HR2 HF2 HW2 HB
   go_wp2
   exact ⟨⟨k+1,f',by simp,by omega,HR2,HF2,HW2,HB.out⟩,by simp [intOf];omega⟩
  ·have HX:Hid (At wr w.heap.size (.slice (some ⟨w.heap.size,0,none⟩) ss.length ss.length) ss):=row_steps HR.out (fun j hj=>HF.out j hj (by omega)) _ (Nat.le_refl _) (by unfold maxLen;omega)
   go_wp2
   go_ret
   exact ⟨_,rfl,HX.out,⟨w.heap.size,f,rfl,Nat.le_refl _,HR.out.lt,HR.out,fun j hj=>by rw [lenC_eq hj,lenE_eq hj];exact HW.out j hj (by omega)⟩,hbel⟩
theorem toS (B:Nat) (ss:List StepD) (v:Value) (w:World) (hl:Small 1048576 ss) (ha:At w B v ss):
    Calls Tryz.prog 98 #[v] w fun e w'=>∃v',e=.returned v'∧At w' w.heap.size v' ss∧Below w.heap.size w w':=
 (toS2 B ss v w hl ha).mono (fun e w' ⟨v',h1,h2,_,h4⟩=>⟨v',h1,h2,h4⟩)
end St
end Go.Proofs.YtccklgopcjilcaaGreatDoor
/- The law's marks in a row of steps: they are written into that row and its nodes alone. -/
namespace Go.Proofs.YtccklgopcjilcaaGreatDoor
open Go.RowKit
set_option linter.unusedVariables false
namespace St
open Ex (hid)
open Nd (NodeD)
def dg (k:Nat):UInt8:=(48+k % 10).toUInt8
theorem dg_nat (j:Nat):((dg j).toNat:Int)=48+(j:Int) % 10:=by
 unfold dg
 have h:(48+j % 10)<256:=by omega
 rw [Nat.toUInt8,UInt8.toNat_ofNat',Nat.mod_eq_of_lt h]
 push_cast
 rfl
theorem conv1 (j:Nat) (w:World):Sem.run Tryz.prog (convert 31 9 (.slice (some ⟨w.heap.size,0,none⟩) 1 1)) (w.alloc (.cells #[.int .u8 (48+(j:Int) % 10)] 5))=.ok (.string ⟨[dg j].toArray⟩) (w.alloc (.cells #[.int .u8 (48+(j:Int) % 10)] 5)):=by
 refine run_convert_bytes_back (P:=Tryz.prog) _ 31 9 5 ⟨w.heap.size,0,none⟩ 1 [dg j] Tryz.underlying31 Tryz.underlying5 Tryz.underlying9 ?_
 intro i hi
 obtain rfl:i=0:=by simpa using hi
 simp [Addr.add,dg_nat]
theorem app_one (c:UInt8) (l:List UInt8):Value.string (ByteArray.mk [c].toArray++ByteArray.mk l.toArray)=.string ⟨(c :: l).toArray⟩:=by
 apply congrArg Value.string;apply ByteArray.ext;simp
set_option maxRecDepth 100000 in
set_option maxHeartbeats 2000000 in
theorem markText (k:Nat) (w:World) (h0:0<k) (hk:k≤35184372088832):Calls Tryz.prog 101 #[.int .i64 k] w fun e w'=>(∃s,e=.returned (.string s))∧Below w.heap.size w w':=by
 have q0:(0:Int)<(k:Int):=by omega
 have q00:k≠0:=by omega
 go_enter Tryz.func101,Tryz.ntmps101
 go_wp2
 go_loopw [0,3] (fun i o wr=>∃(j:Nat) (l:List UInt8),i=.int .i64 j∧o=.string ⟨l.toArray⟩∧l.length+j≤k∧Below w.heap.size w wr) (fun i _ _=>(intOf i).toNat)
 case atStart=>exact ⟨k,[],rfl,rfl,by simp,Below.refl _ _⟩
 case round=>
  obtain ⟨j,l,rfl,rfl,hl,hbel⟩:=hrel
  by_cases hj:0<j
  ·have q1:(0:Int)<(j:Int):=by omega
   go_wp2
   rw [conv1]
   simp only [Result.andThen]
   rw [Oper.upon_value]
   go_wp2
   exact ⟨⟨j / 10,dg j :: l,by simp,app_one _ _,by simp only [List.length_cons];omega,hbel.alloc hbel.size _⟩,by simp [intOf];omega⟩
  ·have q1:¬(0:Int)<(j:Int):=by omega
   go_wp2
   go_ret
   exact ⟨⟨_,rfl⟩,hbel⟩
theorem markText' (k:Int) (w:World) (h0:0<k) (hk:k≤35184372088832):Calls Tryz.prog 101 #[.int .i64 k] w fun e w'=>(∃s,e=.returned (.string s))∧Below w.heap.size w w':=by
 have h:=markText k.toNat w (by omega) (by omega)
 rw [show ((k.toNat:Nat):Int)=k by omega] at h
 exact h
structure Amid (w w':World) (B C:Nat):Prop where
 os:w'.os=w.os
 tape:w'.tape=w.tape
 output:w'.output=w.output
 size:w.heap.size≤w'.heap.size
 block:∀b,b<w.heap.size→b<B∨C≤b→w'.heap[b]?=w.heap[b]?
theorem Amid.refl (w:World) (B C:Nat):Amid w w B C:=⟨rfl,rfl,rfl,Nat.le_refl _,fun _ _ _=>rfl⟩
theorem Amid.trans {w w1 w2:World} {B C:Nat} (h:Amid w w1 B C) (h2:Amid w1 w2 B C):Amid w w2 B C:=
 ⟨h2.os.trans h.os,h2.tape.trans h.tape,h2.output.trans h.output,Nat.le_trans h.size h2.size,fun b hb ho=>(h2.block b (Nat.lt_of_lt_of_le hb h.size) ho).trans (h.block b hb ho)⟩
theorem Amid.of_below {w w':World} {B C:Nat} (h:Below w.heap.size w w'):Amid w w' B C:=⟨h.os,h.tape,h.output,h.size,fun b hb _=>h.block b hb⟩
theorem Amid.set (w:World) {B C g:Nat} (c:Nat) (u:Value) (h1:B≤g) (h2:g<C):Amid w (w.setCell ⟨g,c,none⟩ u) B C:=
 ⟨rfl,rfl,rfl,by simp [World.setCell],fun b hb ho=>Below.heap_setCell _ _ _ _ (by dsimp only;omega)⟩
theorem Amid.mono {w w':World} {B B' C C':Nat} (h:Amid w w' B C) (h1:B'≤B) (h2:C≤C'):Amid w w' B' C':=⟨h.os,h.tape,h.output,h.size,fun b hb ho=>h.block b hb (by omega)⟩
theorem row_size {w:World} {g:Nat} {t t':TypeId} {n n':Nat} {f f':Nat→Value} (h:w.rowIs g t n f) (h':w.rowIs g t' n' f'):n=n':=by
 rcases Nat.lt_trichotomy n n' with e | e | e
 ·have h1:=h'.cell e
  have h2:w.cell? ⟨g,n,none⟩=none:=by
   obtain ⟨c,h3,h4,_⟩:=h
   simp [World.cell?,h3,h4]
  rw [h2] at h1
  cases h1
 ·exact e
 ·have h1:=h.cell e
  have h2:w.cell? ⟨g,n',none⟩=none:=by
   obtain ⟨c,h3,h4,_⟩:=h'
   simp [World.cell?,h3,h4]
  rw [h2] at h1
  cases h1
set_option maxRecDepth 100000 in
set_option maxHeartbeats 4000000 in
theorem markNodes (g:Nat) (m:Nat) (f:Nat→Value) (k:Int) (w:World) (hm:m≤1048576) (h0:0<k) (hk:k≤17592186044416) (hr:w.rowIs g 210 (m*4) f):
    Calls Tryz.prog 102 #[.slice (some ⟨g,0,none⟩) m m,.int .i64 k] w fun e w'=>(∃r:Int,e=.returned (.int .i64 r)∧k≤r∧r≤k+4*(m:Int))∧(∃f',w'.rowIs g 210 (m*4) f')∧Amid w w' g (g+1):=by
 have HR:=hid hr
 clear hr
 go_enter Tryz.func102,Tryz.ntmps102
 go_wp2
 go_loopw [1,5] (fun q i wr=>∃(j:Nat) (f':Nat→Value),i=.int .i64 j∧q=.int .i64 (k+4*(j:Int))∧j≤m∧Hid (wr.rowIs g 210 (m*4) f')∧Hid (Amid w wr g (g+1))) (fun _ i _=>m - (intOf i).toNat)
 case atStart=>exact ⟨0,f,rfl,by simp,Nat.zero_le _,HR,hid (Amid.refl _ _ _)⟩
 case round=>
  obtain ⟨j,f',rfl,rfl,hj,HW,HAM⟩:=hrel
  by_cases hlt:j<m
  ·have q1:(j:Int)<(m:Int):=by omega
   have d0:=HW.out.cell (i:=j*4) (by omega)
   have d1:=HW.out.cell (i:=j*4+1) (by omega)
   have d2:=HW.out.cell (i:=j*4+2) (by omega)
   have d3:=HW.out.cell (i:=j*4+3) (by omega)
   have f0:=HW.out.frozen (j*4)
   have f1:=HW.out.frozen (j*4+1)
   have f2:=HW.out.frozen (j*4+2)
   have f3:=HW.out.frozen (j*4+3)
   have HR2:=hid ((((HW.out.set (j*4) (.int .i64 (k+4*(j:Int)))).set (j*4+1) (.int .i64 (k+4*(j:Int)+1))).set (j*4+2) (.int .i64 (k+4*(j:Int)+1+1))).set (j*4+3) (.int .i64 (k+4*(j:Int)+1+1+1)))
   have HA2:=hid ((((HAM.out.trans (Amid.set wr (j*4) (.int .i64 (k+4*(j:Int))) (Nat.le_refl _) (Nat.lt_succ_self _))).trans (Amid.set _ (j*4+1) (.int .i64 (k+4*(j:Int)+1)) (Nat.le_refl _) (Nat.lt_succ_self _))).trans (Amid.set _ (j*4+2) (.int .i64 (k+4*(j:Int)+1+1)) (Nat.le_refl _) (Nat.lt_succ_self _))).trans (Amid.set _ (j*4+3) (.int .i64 (k+4*(j:Int)+1+1+1)) (Nat.le_refl _) (Nat.lt_succ_self _)))
   go_wp2
   exact ⟨⟨j+1,_,by simp,by simp;omega,by omega,HR2,HA2⟩,by simp [intOf];omega⟩
  ·obtain rfl:j=m:=by omega
   go_wp2
   go_ret
   exact ⟨⟨_,rfl,by omega,by omega⟩,⟨f',HW.out⟩,HAM.out⟩
theorem ownAmid {w w':World} {B C m g:Nat} {v:Value} {f:Nat→Value} {n:Nat} (h:Nd.Own w B C v m) (hA:Amid w w' g (g+1)) (hr:w.rowIs g 210 (n*4) f) (hr':∃f',w'.rowIs g 210 (n*4) f'):Nd.Own w' B C v m:=by
 obtain ⟨gi,fi,hvi,hi1,hi2,hri⟩:=h
 by_cases e3:gi=g
 ·subst e3
  have hs:=row_size hri hr
  obtain ⟨f',hf'⟩:=hr'
  exact ⟨gi,f',hvi,hi1,hi2,by rw [hs];exact hf'⟩
 ·exact ⟨gi,fi,hvi,hi1,hi2,hri.of_block (hA.block gi hri.lt (by omega))⟩
end St
end Go.Proofs.YtccklgopcjilcaaGreatDoor
