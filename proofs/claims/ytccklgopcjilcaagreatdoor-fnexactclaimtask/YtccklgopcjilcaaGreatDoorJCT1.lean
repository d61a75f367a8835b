/- Laid together: Nd, ExM. -/
import Derived.Test.YtccklgopcjilcaaGreatDoorProg
import Derived.WalkKit
import Derived.Below
import Derived.WalkSpells
import Derived.WalkLawsBesides
import Derived.ProofKit
import Derived.OpenShut
import Derived.Deep.Slices
import Derived.Deep.QuietTactic
import Derived.BigQuiet
import Derived.BigRegion
import Derived.Deep.RegionWith
import Derived.Deep.OwnRows
import Derived.Laws.MakeOwn
/- Lists of nodes in memory, and what the law does with them: measured, copied, compared. -/
namespace Go.Proofs.YtccklgopcjilcaaGreatDoor
open Go.RowKit Go.Deep
set_option linter.unusedVariables false
namespace Nd
structure NodeD where
 kind:Int
 value:Int
 left:Int
 right:Int
def At (w:World) (B:Nat) (v:Value) (xs:List NodeD):Prop:=
 ∃a cap,v=.slice a xs.length cap∧xs.length≤cap∧cap≤maxLen∧(xs=[]∨∃g o,a=some ⟨g,o,none⟩∧B≤g∧g<w.heap.size∧∀i (h:i<xs.length),w.cell? ⟨g,o+i*4,none⟩=some (.int .i64 xs[i].kind)∧w.cell? ⟨g,o+i*4+1,none⟩=some (.int .i64 xs[i].value)∧w.cell? ⟨g,o+i*4+2,none⟩=some (.int .i64 xs[i].left)∧w.cell? ⟨g,o+i*4+3,none⟩=some (.int .i64 xs[i].right))
theorem At.kept {w w':World} {B:Nat} {v:Value} {xs:List NodeD} (h:At w B v xs) (hs:w.heap.size≤w'.heap.size) (hb:∀g,B≤g→g<w.heap.size→w'.heap[g]?=w.heap[g]?):At w' B v xs:=by
 obtain ⟨a,cap,rfl,hle,hmx,h⟩:=h
 refine ⟨a,cap,rfl,hle,hmx,?_⟩
 rcases h with h | ⟨g,o,rfl,hB,hg,hc⟩
 ·exact .inl h
 ·refine .inr ⟨g,o,rfl,hB,Nat.lt_of_lt_of_le hg hs,fun i hi=>?_⟩
  have e:∀off,w'.cell? ⟨g,off,none⟩=w.cell? ⟨g,off,none⟩:=fun off=>by simp only [World.cell?,hb g hB hg]
  simp only [e]
  exact hc i hi
theorem At.below {w w':World} {B:Nat} {v:Value} {xs:List NodeD} (h:At w B v xs) (hb:Below w.heap.size w w'):At w' B v xs:=h.kept hb.size (fun g _ hg=>hb.block g hg)
theorem At.setBelow {w:World} {B:Nat} {v:Value} {xs:List NodeD} (h:At w B v xs) {b o:Nat} (ha:b<B) (x:Value):At (w.setCell ⟨b,o,none⟩ x) B v xs:=
 h.kept (by simp [World.setCell]) (fun g hg _=>Below.heap_setCell _ _ _ _ (by dsimp only;omega))
theorem At.mono {w:World} {B B':Nat} {v:Value} {xs:List NodeD} (h:At w B v xs) (hB:B'≤B):At w B' v xs:=by
 obtain ⟨a,cap,rfl,hle,hmx,h⟩:=h
 refine ⟨a,cap,rfl,hle,hmx,?_⟩
 rcases h with h | ⟨g,o,rfl,hb,hg,hc⟩
 ·exact .inl h
 ·exact .inr ⟨g,o,rfl,Nat.le_trans hB hb,hg,hc⟩
theorem At.slice {w:World} {B:Nat} {v:Value} {xs:List NodeD} (h:At w B v xs):∃a cap,v=.slice a xs.length cap:=by
 obtain ⟨a,cap,rfl,_⟩:=h;exact ⟨a,cap,rfl⟩
theorem At.at {w:World} {B:Nat} {a:Option Addr} {n cap:Nat} {xs:List NodeD} (h:At w B (.slice a n cap) xs) {i:Nat} (hi:i<xs.length):
    ∃g o,a=some ⟨g,o,none⟩∧g<w.heap.size∧w.cell? ⟨g,o+i*4,none⟩=some (.int .i64 xs[i].kind)∧w.cell? ⟨g,o+i*4+1,none⟩=some (.int .i64 xs[i].value)∧w.cell? ⟨g,o+i*4+2,none⟩=some (.int .i64 xs[i].left)∧w.cell? ⟨g,o+i*4+3,none⟩=some (.int .i64 xs[i].right):=by
 obtain ⟨a',cap',e,_,_,h⟩:=h
 cases e
 rcases h with h | ⟨g,o,rfl,_,hg,hc⟩
 ·subst h;simp at hi
 ·exact ⟨g,o,rfl,hg,hc i hi⟩
theorem At.cap {w:World} {B:Nat} {a:Option Addr} {n cap:Nat} {xs:List NodeD} (h:At w B (.slice a n cap) xs):xs.length≤cap∧cap≤maxLen:=by
 obtain ⟨a',cap',e,h1,h2,_⟩:=h;cases e;exact ⟨h1,h2⟩
theorem cellsOne:Tryz.prog.cellsOf 293=4:=by kernel_rfl
theorem cellsI64:Tryz.prog.cellsOf 2=1:=by kernel_rfl
section
variable {H : Type} {enc : TypeId × Value → H} {w : World} {base : Nat} {spare : Nat → Bool} {held : Bool} {fuel : Nat}
theorem add_add (a:Addr) (x y:Nat):(a.add x).add y=a.add (x+y):=by
 unfold Addr.add
 by_cases hx:x=0
 ·simp [hx]
 ·by_cases hy:y=0
  ·simp [hy]
  ·simp [hx,hy,Nat.add_assoc]
theorem lt_of_cell {a:Addr} {v:Value} (h:w.cell? a=some v):a.block<w.heap.size:=by
 rcases Nat.lt_or_ge a.block w.heap.size with h1 | h1
 ·exact h1
 ·simp [World.cell?,Array.getElem?_eq_none h1] at h
set_option maxRecDepth 100000 in
theorem open_one {cs:List Value} {x:DataW H × List MemPlace} (h:DataW.trod enc Tryz.prog w base spare held fuel 293 cs=some x):∃e:NodeD,cs=[.int .i64 e.kind,.int .i64 e.value,.int .i64 e.left,.int .i64 e.right]:=by
 obtain ⟨xs,n,rfl,_,hlen,hxl,hf⟩:=DataW.trod_struct Tryz.underlying293 h
 have h0:=hf 0 _ rfl
 have h1:=hf 1 _ rfl
 have h2:=hf 2 _ rfl
 have h3:=hf 3 _ rfl
 rw [cellsOne] at hlen
 match cs,hlen with
 | [a,b,c,d],_=>
  match xs,hxl with
  | [x0,x1,x2,x3],_=>
   simp [cellsI64] at h0 h1 h2 h3
   obtain ⟨n0,e0,_,_⟩:=DataW.trod_int Tryz.underlying2 h0
   obtain ⟨n1,e1,_,_⟩:=DataW.trod_int Tryz.underlying2 h1
   obtain ⟨n2,e2,_,_⟩:=DataW.trod_int Tryz.underlying2 h2
   obtain ⟨n3,e3,_,_⟩:=DataW.trod_int Tryz.underlying2 h3
   simp at e0 e1 e2 e3
   subst e0 e1 e2 e3
   exact ⟨⟨n0,n1,n2,n3⟩,rfl⟩
set_option maxRecDepth 100000 in
theorem open_all {v:Value} {x:DataW H × List MemPlace} (h:DataW.trod enc Tryz.prog w base spare held fuel 202 [v]=some x):
    ∃es,At w 0 v es∧es.length≤maxLen:=by
 rcases open_slice Tryz.underlying202 h with ⟨hcs,_⟩ | ⟨a,len,cap,m,n,D,Pl,hcs,hb,hl,hcm,hm,_,hx⟩
 ·obtain rfl:v=.slice none 0 0:=by simpa using hcs
  exact ⟨[],⟨none,0,rfl,Nat.le_refl _,Nat.zero_le _,.inl rfl⟩,Nat.zero_le _⟩
 ·obtain rfl:v=.slice (some a) len cap:=by simpa using hcs
  have hlm:len≤m:=by rw [hm];split <;> omega
  rw [cellsOne] at hx
  have each:∀i,i<len→∃q:NodeD,w.cell? (a.add (i*4))=some (.int .i64 q.kind)∧w.cell? (a.add (i*4+1))=some (.int .i64 q.value)∧w.cell? (a.add (i*4+2))=some (.int .i64 q.left)∧w.cell? (a.add (i*4+3))=some (.int .i64 q.right):=fun i hi=>by
   obtain ⟨cs',c0,d0⟩:=hx i (by omega)
   obtain ⟨e,rfl⟩:=open_one d0
   obtain ⟨_,_,hc⟩:=World.cells?_some c0
   have k0:=hc 0 (by omega)
   have k1:=hc 1 (by omega)
   have k2:=hc 2 (by omega)
   have k3:=hc 3 (by omega)
   rw [add_add] at k0 k1 k2 k3
   exact ⟨e,k0,k1,k2,k3⟩
  haveI:Inhabited NodeD:=⟨⟨0,0,0,0⟩⟩
  obtain ⟨F,hF⟩:=choose_lt each
  refine ⟨(List.range len).map F,?_,by simp;omega⟩
  refine ⟨some a,cap,by simp,by simpa using hl,hcm,?_⟩
  rcases Nat.eq_zero_or_pos len with h0 | h0
  ·exact .inl (by simp [h0])
  ·right
   obtain ⟨b,off,spot⟩:=a
   have hspot:spot=none:=by simpa [Addr.add] using World.cell?_spot (hF 0 h0).1
   subst hspot
   refine ⟨b,off,rfl,Nat.zero_le _,lt_of_cell (hF 0 h0).1,fun i hi=>?_⟩
   have hi':i<len:=by simpa using hi
   have h2:=hF i hi'
   simp only [List.getElem_map,List.getElem_range]
   simp only [Go.WideShapes.add_plain,←Nat.add_assoc] at h2 ⊢
   exact h2
end
set_option maxRecDepth 100000 in
set_option maxHeartbeats 400000 in
theorem szS (xs:List NodeD) (v:Value) (n:Int) (B:Nat) (w:World) (h0:0≤n) (hn:n≤1048576) (hl:xs.length≤maxLen) (ha:At w B v xs):
    Calls Tryz.prog 177 #[v,.int .i64 n] w fun e w'=>(∃r:Int,e=.returned (.int .i64 r)∧-1≤r∧r≤n∧(0≤r→(xs.length:Int)≤n))∧w'=w:=by
 obtain ⟨a,cap,rfl⟩:=ha.slice
 clear ha
 unfold maxLen at hl
 by_cases q1:n - (xs.length:Int)<0
 ·go_enter Tryz.func177,Tryz.ntmps177
  go_wp2
  go_ret
  exact ⟨⟨-1,rfl,by omega,by omega,by omega⟩,rfl⟩
 ·go_enter Tryz.func177,Tryz.ntmps177
  go_wp2
  go_ret
  exact ⟨⟨_,rfl,by omega,by omega,by omega⟩,rfl⟩
theorem infoOne:(Tryz.prog.info? 210).map (fun i=>(i.zero,i.size,i.bytes))=some (some (Value.agg #[.int .i64 0,.int .i64 0,.int .i64 0,.int .i64 0]),4,32):=by kernel_rfl
theorem make_row {P:Program} {t e:TypeId} {z:Value} {sz bytes:Nat} (ht:P.underlying t=some (.slice e)) (hinfo:(P.info? e).map (fun i=>(i.zero,i.size,i.bytes))=some (some z,sz,bytes))
    (n:Nat) (hb:bytes*n≤281474976710656) (hn:n≤9223372036854775807) (w:World):
    (Instr.makeSlice t (.int .i64 (n:Int)) (.int .i64 (n:Int))).run P w=.ok (.slice (some ⟨w.heap.size,0,none⟩) n n) (w.alloc (.cells (madeCells z.cells (n*sz)) e)):=by
 cases hi:P.info? e with
 | none=>rw [hi] at hinfo;cases hinfo
 | some i=>
  rw [hi] at hinfo
  simp only [Option.map_some,Option.some.injEq,Prod.mk.injEq] at hinfo
  obtain ⟨h1,h2,h3⟩:=hinfo
  have hb':(i.bytes:Int)*(n:Int)≤281474976710656:=by
   have h:((i.bytes*n:Nat):Int)≤281474976710656:=by rw [h3];omega
   rwa [Int.natCast_mul] at h
  have h:=run_make (P:=P) w t e i z ht hi h1 .i64 .i64 n n (by omega) (Int.le_refl _) hb' (by omega)
  rw [h2] at h
  simpa using h
theorem made_row (w:World) (z:Array Value) (n:Nat) (e:TypeId):∃f,(w.alloc (.cells (madeCells z n) e)).rowIs w.heap.size e n f:=by
 have h:=World.rowIs_alloc w (madeCells z n) e (fun i=>(madeCells z n)[i]!) (fun i hi=>by simp [hi])
 rw [size_madeCells] at h
 exact ⟨_,h⟩
def Own (w:World) (B C:Nat) (v:Value) (m:Nat):Prop:=∃g f,v=.slice (some ⟨g,0,none⟩) m m∧B≤g∧g<C∧w.rowIs g 210 (m*4) f
theorem row_at {w:World} {g:Nat} {t:TypeId} {f:Nat→Value} {xs:List NodeD} (h:w.rowIs g t (xs.length*4) f)
    (hf:∀j (hj:j<xs.length),f (j*4)=.int .i64 xs[j].kind∧f (j*4+1)=.int .i64 xs[j].value∧f (j*4+2)=.int .i64 xs[j].left∧f (j*4+3)=.int .i64 xs[j].right) (cap:Nat) (hc:xs.length≤cap) (hm:cap≤maxLen):At w g (.slice (some ⟨g,0,none⟩) xs.length cap) xs:=by
 refine ⟨_,_,rfl,hc,hm,.inr ⟨g,0,rfl,Nat.le_refl _,h.lt,fun i hi=>?_⟩⟩
 have h1:=hf i hi
 simp only [Nat.zero_add]
 obtain ⟨e0,e1,e2,e3⟩:=h1
 rw [←e0,←e1,←e2,←e3]
 exact ⟨h.cell (by omega),h.cell (by omega),h.cell (by omega),h.cell (by omega)⟩
theorem setOne {w:World} {g:Nat} {t:TypeId} {k:Nat} {f:Nat→Value} {xs:List NodeD} (h:w.rowIs g t (xs.length*4) f)
    (hf:∀j (hj:j<xs.length),j<k→f (j*4)=.int .i64 xs[j].kind∧f (j*4+1)=.int .i64 xs[j].value∧f (j*4+2)=.int .i64 xs[j].left∧f (j*4+3)=.int .i64 xs[j].right) (hk:k<xs.length):
    ∃f',((((w.setCell ⟨g,k*4,none⟩ (.int .i64 xs[k].kind)).setCell ⟨g,k*4+1,none⟩ (.int .i64 xs[k].value)).setCell ⟨g,k*4+2,none⟩ (.int .i64 xs[k].left)).setCell ⟨g,k*4+3,none⟩ (.int .i64 xs[k].right)).rowIs g t (xs.length*4) f'∧∀j (hj:j<xs.length),j<k+1→f' (j*4)=.int .i64 xs[j].kind∧f' (j*4+1)=.int .i64 xs[j].value∧f' (j*4+2)=.int .i64 xs[j].left∧f' (j*4+3)=.int .i64 xs[j].right:=by
 refine ⟨_,((((h.set (k*4) _).set (k*4+1) _).set (k*4+2) _).set (k*4+3) _),fun j hj hjk=>?_⟩
 by_cases e:j=k
 ·subst e
  exact ⟨by simp,by simp,by simp,by simp⟩
 ·have h1:=hf j hj (by omega)
  have n00:¬j*4=k*4:=by omega
  have n01:¬j*4=k*4+1:=by omega
  have n02:¬j*4=k*4+2:=by omega
  have n03:¬j*4=k*4+3:=by omega
  have n10:¬j*4+1=k*4:=by omega
  have n11:¬j*4+1=k*4+1:=by omega
  have n12:¬j*4+1=k*4+2:=by omega
  have n13:¬j*4+1=k*4+3:=by omega
  have n20:¬j*4+2=k*4:=by omega
  have n21:¬j*4+2=k*4+1:=by omega
  have n22:¬j*4+2=k*4+2:=by omega
  have n23:¬j*4+2=k*4+3:=by omega
  have n30:¬j*4+3=k*4:=by omega
  have n31:¬j*4+3=k*4+1:=by omega
  have n32:¬j*4+3=k*4+2:=by omega
  have n33:¬j*4+3=k*4+3:=by omega
  simp only [n00,n01,n02,n03,n10,n11,n12,n13,n20,n21,n22,n23,n30,n31,n32,n33,if_false]
  exact h1
set_option maxRecDepth 100000 in
set_option maxHeartbeats 400000 in
theorem toOne (x:NodeD) (w:World):Calls Tryz.prog 225 #[.agg #[.int .i64 x.kind,.int .i64 x.value,.int .i64 x.left,.int .i64 x.right]] w fun e w'=>e=.returned (.agg #[.int .i64 x.kind,.int .i64 x.value,.int .i64 x.left,.int .i64 x.right])∧Below w.heap.size w w':=by
 go_enter Tryz.func225,Tryz.ntmps225
 go_wp2
 exact bodyPost_ret (v:=.agg #[.int .i64 x.kind,.int .i64 x.value,.int .i64 x.left,.int .i64 x.right]) (by simp [results,Tryz.results225,go_sem]) rfl ⟨rfl,(((Below.refl _ w).alloc (Nat.le_refl _) _).alloc (by simp) _).alloc (by simp;omega) _⟩
set_option maxRecDepth 100000 in
set_option maxHeartbeats 1000000 in
theorem toS2 (B:Nat) (xs:List NodeD) (v:Value) (w:World) (hl:xs.length≤1048576) (ha:At w B v xs):
    Calls Tryz.prog 181 #[v] w fun e w'=>∃v',e=.returned v'∧At w' w.heap.size v' xs∧Own w' w.heap.size w'.heap.size v' xs.length∧Below w.heap.size w w':=by
 obtain ⟨a,cap,rfl⟩:=ha.slice
 have HA:Hid (At w B (.slice a xs.length cap) xs):=ha
 clear ha
 have hmk:=make_row (P:=Tryz.prog) Tryz.underlying162 infoOne xs.length (by omega) (by omega)
 go_enter Tryz.func181,Tryz.ntmps181
 go_wp2
 go_loopw [4] (fun i wr=>∃(k:Nat) (f:Nat→Value),i=.int .i64 k∧k≤xs.length∧Hid (wr.rowIs w.heap.size 210 (xs.length*4) f)∧Hid (∀j (hj:j<xs.length),j<k→f (j*4)=.int .i64 xs[j].kind∧f (j*4+1)=.int .i64 xs[j].value∧f (j*4+2)=.int .i64 xs[j].left∧f (j*4+3)=.int .i64 xs[j].right)∧Below w.heap.size w wr) (fun i _=>xs.length - (intOf i).toNat)
 case atStart=>
  obtain ⟨f,hf⟩:=made_row w (Value.agg #[.int .i64 0,.int .i64 0,.int .i64 0,.int .i64 0]).cells (xs.length*4) 210
  exact ⟨0,f,rfl,Nat.zero_le _,hf,fun j _ h=>by omega,(Below.refl _ _).alloc (Nat.le_refl _) _⟩
 case round=>
  obtain ⟨k,f,rfl,hkl,HR,HF,hbel⟩:=hrel
  by_cases hlt:k<xs.length
  ·obtain ⟨g,o,rfl,hg,c0,c1,c2,c3⟩:=(HA.out.below hbel).at hlt
   have q1:(k:Int)<(xs.length:Int):=by omega
   go_wp2_with fail
   refine (toOne xs[k] _).mono ?_
   rintro e w1 ⟨rfl,hb1⟩
   have hR1:w1.rowIs w.heap.size 210 (xs.length*4) f:=HR.out.of_block (hb1.block _ HR.out.lt)
   have d0:=hR1.cell (i:=k*4) (by omega)
   have d1:=hR1.cell (i:=k*4+1) (by omega)
   have d2:=hR1.cell (i:=k*4+2) (by omega)
   have d3:=hR1.cell (i:=k*4+3) (by omega)
   have f0:=hR1.frozen (k*4)
   have f1:=hR1.frozen (k*4+1)
   have f2:=hR1.frozen (k*4+2)
   have f3:=hR1.frozen (k*4+3)
   obtain ⟨f',hR2,hF2⟩:=setOne (k:=k) hR1 HF.out hlt
   have HR2:Hid _:=hR2
   have HF2:Hid _:=hF2
   have hB:Below w.heap.size w w1:=hbel.trans (hb1.mono hbel.size)
   clear hR1 hR2 hF2
   go_wp2
   exact ⟨⟨k+1,f',by simp,by omega,HR2,HF2,((((hB.setCell (by simp) _).setCell (by simp) _).setCell (by simp) _).setCell (by simp) _)⟩,by simp [intOf];omega⟩
  ·have HX:Hid (At wr w.heap.size (.slice (some ⟨w.heap.size,0,none⟩) xs.length xs.length) xs):=row_at HR.out (fun j hj=>HF.out j hj (by omega)) _ (Nat.le_refl _) (by unfold maxLen;omega)
   go_wp2
   go_ret
   exact ⟨_,rfl,HX.out,⟨w.heap.size,f,rfl,Nat.le_refl _,HR.out.lt,HR.out⟩,hbel⟩
theorem toS (B:Nat) (xs:List NodeD) (v:Value) (w:World) (hl:xs.length≤1048576) (ha:At w B v xs):
    Calls Tryz.prog 181 #[v] w fun e w'=>∃v',e=.returned v'∧At w' w.heap.size v' xs∧Below w.heap.size w w':=
 (toS2 B xs v w hl ha).mono (fun e w' ⟨v',h1,h2,_,h4⟩=>⟨v',h1,h2,h4⟩)
set_option maxRecDepth 100000 in
set_option maxHeartbeats 400000 in
theorem eqOne (x:NodeD) (w:World):Calls Tryz.prog 226 #[.agg #[.int .i64 x.kind,.int .i64 x.value,.int .i64 x.left,.int .i64 x.right],.agg #[.int .i64 x.kind,.int .i64 x.value,.int .i64 x.left,.int .i64 x.right]] w fun e w'=>e=.returned (.bool true)∧Below w.heap.size w w':=by
 have h0:(x.kind != x.kind)=false:=by simp
 have h1:(x.value != x.value)=false:=by simp
 have h2:(x.left != x.left)=false:=by simp
 have h3:(x.right != x.right)=false:=by simp
 go_enter Tryz.func226,Tryz.ntmps226
 go_wp2
 go_ret
 exact ⟨rfl,((Below.refl _ w).alloc (Nat.le_refl _) _).alloc (by simp) _⟩
set_option maxRecDepth 100000 in
set_option maxHeartbeats 2000000 in
theorem eqS (B1 B2:Nat) (xs:List NodeD) (v1 v2:Value) (w:World) (hl:xs.length≤1048576) (h1:At w B1 v1 xs) (h2:At w B2 v2 xs):
    Calls Tryz.prog 184 #[v1,v2] w fun e w'=>e=.returned (.bool true)∧Below w.heap.size w w':=by
 obtain ⟨a1,c1,rfl⟩:=h1.slice
 obtain ⟨a2,c2,rfl⟩:=h2.slice
 have H1:Hid (At w B1 (.slice a1 xs.length c1) xs):=h1
 have H2:Hid (At w B2 (.slice a2 xs.length c2) xs):=h2
 clear h1 h2
 have hb:((xs.length:Int) != (xs.length:Int))=false:=by simp
 go_enter Tryz.func184,Tryz.ntmps184
 go_wp2
 go_loopw [5] (fun i wr=>∃k:Nat,i=.int .i64 k∧k≤xs.length∧Below w.heap.size w wr) (fun i _=>xs.length - (intOf i).toNat)
 case atStart=>exact ⟨0,rfl,Nat.zero_le _,Below.refl _ _⟩
 case round=>
  obtain ⟨k,rfl,hk,hbel⟩:=hrel
  by_cases hlt:k<xs.length
  ·obtain ⟨g1,o1,rfl,hg1,p0,p1,p2,p3⟩:=(H1.out.below hbel).at hlt
   obtain ⟨g2,o2,rfl,hg2,u0,u1,u2,u3⟩:=(H2.out.below hbel).at hlt
   have r1:(k:Int)<(xs.length:Int):=by omega
   have HE:Hid (∀w:World,Calls Tryz.prog 226 #[.agg #[.int .i64 xs[k].kind,.int .i64 xs[k].value,.int .i64 xs[k].left,.int .i64 xs[k].right],.agg #[.int .i64 xs[k].kind,.int .i64 xs[k].value,.int .i64 xs[k].left,.int .i64 xs[k].right]] w fun e w'=>e=.returned (.bool true)∧Below w.heap.size w w'):=fun w=>eqOne xs[k] w
   go_wp2
   go_region_with ((go_at_call 226;refine (HE.out _).mono ?_;rintro e w1 ⟨rfl,hb1⟩;have hbb:Below wr.heap.size wr w1:=((Below.refl wr.heap.size wr).drew).trans hb1))
   all_goals go_wp2
   all_goals exact ⟨⟨k+1,by simp,by omega,hbel.trans (hbb.mono hbel.size)⟩,by simp [intOf];omega⟩
  ·go_wp2
   go_ret
   exact ⟨rfl,hbel⟩
end Nd
end Go.Proofs.YtccklgopcjilcaaGreatDoor
/- Plain facts about expressions, of no program. -/
namespace Go.Proofs.YtccklgopcjilcaaGreatDoor
open Go.RowKit
set_option linter.unusedVariables false
namespace Ex
open Nd (NodeD)
theorem hid {p:Prop} (h:p):Hid p:=h
def inR (v a b:Int):Bool:=decide (a≤v)&&decide (v≤b)
def two (k:Int):Bool:=inR k 3 9
def vFault (xs:List Int):Int:=if xs.length≠4 then 2 else if xs.all (fun x=>inR x (-1000000) 1000000)=true then 0 else 3
theorem v_len {xs:List Int} (h:xs.length≠4):vFault xs=2:=by unfold vFault;rw [if_pos h]
theorem v_ok {xs:List Int} (h:xs.length=4) (h2:∀i (hi:i<xs.length),inR xs[i] (-1000000) 1000000=true):vFault xs=0:=by
 unfold vFault
 rw [if_neg (by simp [h]),if_pos]
 rw [List.all_eq_true]
 intro x hx
 obtain ⟨i,hi,rfl⟩:=List.getElem_of_mem hx
 exact h2 i hi
theorem v_bad {xs:List Int} (h:xs.length=4) {i:Nat} (hi:i<xs.length) (h2:inR xs[i] (-1000000) 1000000=false):vFault xs=3:=by
 unfold vFault
 rw [if_neg (by simp [h]),if_neg]
 rw [List.all_eq_true]
 intro hx
 have:=hx xs[i] (List.getElem_mem hi)
 rw [h2] at this
 cases this
def has (n:NodeD):Bool:=(decide (n.kind≤2)&&((n.left != 0) || (n.right != 0))) || (!decide (n.kind≤2)&&(n.value != 0)) || ((n.kind==10)&&(n.right != 0))
def wide (n:NodeD):Bool:=((n.kind==1)&&!inR n.value 0 9999) || ((n.kind==2)&&!inR n.value 0 3)
def far (n:NodeD) (i:Int):Bool:=(!decide (n.kind≤2)&&!inR n.left 0 (i - 1)) || (two n.kind&&!inR n.right 0 (i - 1))
def nCode (n:NodeD) (i:Int):Int:=if inR n.kind 1 10=false then 1 else if has n=true then 1 else if wide n=true then 3 else if far n i=true then 3 else 0
theorem n_kind {n:NodeD} {i:Int} (h:inR n.kind 1 10=false):nCode n i=1:=by unfold nCode;rw [if_pos h]
theorem n_has {n:NodeD} {i:Int} (h:inR n.kind 1 10=true) (h2:has n=true):nCode n i=1:=by unfold nCode;rw [if_neg (by simp [h]),if_pos h2]
theorem n_wide {n:NodeD} {i:Int} (h:inR n.kind 1 10=true) (h2:has n=false) (h3:wide n=true):nCode n i=3:=by unfold nCode;rw [if_neg (by simp [h]),if_neg (by simp [h2]),if_pos h3]
theorem n_far {n:NodeD} {i:Int} (h:inR n.kind 1 10=true) (h2:has n=false) (h3:wide n=false) (h4:far n i=true):nCode n i=3:=by unfold nCode;rw [if_neg (by simp [h]),if_neg (by simp [h2]),if_neg (by simp [h3]),if_pos h4]
theorem n_ok {n:NodeD} {i:Int} (h:inR n.kind 1 10=true) (h2:has n=false) (h3:wide n=false) (h4:far n i=false):nCode n i=0:=by unfold nCode;rw [if_neg (by simp [h]),if_neg (by simp [h2]),if_neg (by simp [h3]),if_neg (by simp [h4])]
theorem of_n {n:NodeD} {i:Int} (h:nCode n i=0):inR n.kind 1 10=true∧has n=false∧wide n=false∧far n i=false:=by
 unfold nCode at h
 by_cases h1:inR n.kind 1 10=false
 ·rw [if_pos h1] at h;omega
 rw [if_neg h1] at h
 by_cases h2:has n=true
 ·rw [if_pos h2] at h;omega
 rw [if_neg h2] at h
 by_cases h3:wide n=true
 ·rw [if_pos h3] at h;omega
 rw [if_neg h3] at h
 by_cases h4:far n i=true
 ·rw [if_pos h4] at h;omega
 exact ⟨by simpa using h1,by simpa using h2,by simpa using h3,by simpa using h4⟩
theorem inR_iff {v a b:Int}:inR v a b=true↔a≤v∧v≤b:=by simp [inR]
theorem inR_not {v a b:Int}:inR v a b=false↔¬(a≤v∧v≤b):=by rw [←inR_iff];simp
theorem n_left {n:NodeD} {i:Int} (h:nCode n i=0) (hk:2<n.kind):0≤n.left∧n.left<i:=by
 have h4:=(of_n h).2.2.2
 unfold far at h4
 simp only [Bool.or_eq_false_iff,Bool.and_eq_false_iff,Bool.not_eq_false',decide_eq_true_eq] at h4
 rcases h4.1 with h5 | h5
 ·omega
 ·have:=inR_iff.1 h5;omega
theorem n_right {n:NodeD} {i:Int} (h:nCode n i=0) (hk:two n.kind=true):0≤n.right∧n.right<i:=by
 have h4:=(of_n h).2.2.2
 unfold far at h4
 simp only [Bool.or_eq_false_iff,Bool.and_eq_false_iff,Bool.not_eq_false',decide_eq_true_eq] at h4
 rcases h4.2 with h5 | h5
 ·rw [hk] at h5;cases h5
 ·have:=inR_iff.1 h5;omega
def NJ (ns:List NodeD) (k:Nat):NodeD:=ns[k]?.getD ⟨0,0,0,0⟩
theorem NJ_eq {ns:List NodeD} {k:Nat} (h:k<ns.length):NJ ns k=ns[k]:=by unfold NJ;rw [List.getElem?_eq_getElem h];rfl
def walkF (ns:List NodeD):Nat→Nat→List Nat→List Nat
 | 0,_,out=>out
 | f+1,k,out=>if 16<out.length then out else
  (if two (NJ ns k).kind=true then walkF ns f (NJ ns k).right.toNat (if 2<(NJ ns k).kind then walkF ns f (NJ ns k).left.toNat out else out) else (if 2<(NJ ns k).kind then walkF ns f (NJ ns k).left.toNat out else out))++[k]
theorem walk_len (ns:List NodeD):∀(f k:Nat) (out:List Nat),(walkF ns f k out).length≤max out.length 16+f
 | 0,k,out=>by rw [walkF];omega
 | f+1,k,out=>by
  rw [walkF]
  split
  ·omega
  ·rename_i h
   have e1:(if 2<(NJ ns k).kind then walkF ns f (NJ ns k).left.toNat out else out).length≤max out.length 16+f:=by
    split
    ·exact walk_len ns f _ _
    ·omega
   rw [List.length_append,List.length_singleton]
   by_cases ht:two (NJ ns k).kind=true
   ·rw [if_pos ht]
    generalize (if 2<(NJ ns k).kind then walkF ns f (NJ ns k).left.toNat out else out)=o1 at *
    by_cases h16:16<o1.length
    ·have:walkF ns f (NJ ns k).right.toNat o1=o1:=by
      cases f with
      | zero=>rfl
      | succ f=>rw [walkF,if_pos h16]
     rw [this];omega
    ·have:=walk_len ns f (NJ ns k).right.toNat o1
     omega
   ·rw [if_neg ht];omega
def eCodeTo (ns:List NodeD):Nat→Int
 | 0=>0
 | n+1=>if eCodeTo ns n≠0 then eCodeTo ns n else nCode (NJ ns n) n
def order (ns:List NodeD):List Nat:=walkF ns ns.length (ns.length - 1) []
def eFault (ns:List NodeD):Int:=if ns.length<1∨16<ns.length then 2 else if eCodeTo ns ns.length≠0 then eCodeTo ns ns.length else if order ns=List.range ns.length then 0 else 1
theorem e_many {ns:List NodeD} (h:ns.length<1∨16<ns.length):eFault ns=2:=by unfold eFault;rw [if_pos h]
theorem code_to {ns:List NodeD}:∀ {m n:Nat},m≤n→eCodeTo ns m≠0→eCodeTo ns n=eCodeTo ns m
 | m,0,h,h2=>by obtain rfl:m=0:=by omega
                rfl
 | m,n+1,h,h2=>by
  by_cases e:m=n+1
  ·rw [e]
  ·have h3:=code_to (m:=m) (n:=n) (by omega) h2
   rw [eCodeTo,if_pos (by rw [h3];exact h2),h3]
theorem code_all {ns:List NodeD}:∀ {n:Nat},eCodeTo ns n=0→∀k,k<n→nCode (NJ ns k) k=0
 | 0,_,k,hk=>by omega
 | n+1,h,k,hk=>by
  rw [eCodeTo] at h
  by_cases h1:eCodeTo ns n≠0
  ·rw [if_pos h1] at h;exact absurd h h1
  ·rw [if_neg h1] at h
   by_cases e:k=n
   ·rw [e];exact h
   ·exact code_all (by simpa using h1) k (by omega)
theorem e_node {ns:List NodeD} (h:¬(ns.length<1∨16<ns.length)) {i:Nat} (hi:i<ns.length) (h2:eCodeTo ns i=0) (h3:nCode ns[i] i≠0):eFault ns=nCode ns[i] i:=by
 have e:eCodeTo ns (i+1)=nCode ns[i] i:=by rw [eCodeTo,if_neg (by simp [h2]),NJ_eq hi]
 have e2:=code_to (ns:=ns) (m:=i+1) (n:=ns.length) (by omega) (by rw [e];exact h3)
 unfold eFault
 rw [if_neg h,if_pos (by rw [e2,e];exact h3),e2,e]
theorem code_next {ns:List NodeD} {i:Nat} (hi:i<ns.length) (h2:eCodeTo ns i=0) (h3:nCode ns[i] i=0):eCodeTo ns (i+1)=0:=by
 rw [eCodeTo,if_neg (by simp [h2]),NJ_eq hi,h3]
theorem e_ok {ns:List NodeD} (h:¬(ns.length<1∨16<ns.length)) (h2:eCodeTo ns ns.length=0) (h3:order ns=List.range ns.length):eFault ns=0:=by
 unfold eFault;rw [if_neg h,if_neg (by simp [h2]),if_pos h3]
theorem e_form {ns:List NodeD} (h:¬(ns.length<1∨16<ns.length)) (h2:eCodeTo ns ns.length=0) (h3:order ns≠List.range ns.length):eFault ns=1:=by
 unfold eFault;rw [if_neg h,if_neg (by simp [h2]),if_neg h3]
theorem order_len {ns:List NodeD} (h:¬16<ns.length):(order ns).length≤32:=by
 have:=walk_len ns ns.length (ns.length - 1) []
 unfold order
 simp only [List.length_nil] at this
 omega
theorem range_of {l:List Nat} {n:Nat} (h:l.length=n) (h2:∀i (hi:i<l.length),l[i]=i):l=List.range n:=by
 apply List.ext_getElem (by simpa using h)
 intro i h1 h3
 rw [h2 i h1]
 simp
theorem range_not {l:List Nat} {n i:Nat} (hi:i<l.length) (h2:l[i]≠i):l≠List.range n:=by
 intro e
 subst e
 simp at h2
end Ex
end Go.Proofs.YtccklgopcjilcaaGreatDoor
