/- Laid together: StA, TrM, Nu, ExA. -/
import Derived.Test.YtccklgopcjilcaaGreatDoorJCT1
import Derived.Deep.SlicePairs
import Derived.WalkKit
import Derived.Test.YtccklgopcjilcaaGreatDoorProg
import Derived.Below
import Derived.WalkSpells
import Derived.WalkLawsBesides
import Derived.ProofKit
import Derived.OpenShut
import Derived.Deep.Slices
import Derived.Deep.QuietTactic
import Derived.BigQuiet
import Derived.BigRegion
import Derived.Deep.RegionWith
import Derived.Deep.OwnRows
import Derived.Laws.MakeOwn
/- Lists of steps in memory, and the law's measure of them. -/
namespace Go.Proofs.YtccklgopcjilcaaGreatDoor
open Go.RowKit Go.Deep
set_option linter.unusedVariables false
namespace St
open Ex (hid)
open Nd (NodeD)
structure StepD where
 kind:Int
 parent:Int
 name:ByteArray
 arg:Int
 cond:List NodeD
 expr:List NodeD
def At (w:World) (B:Nat) (v:Value) (ss:List StepD):Prop:=
 ∃a cap,v=.slice a ss.length cap∧ss.length≤cap∧cap≤maxLen∧(ss=[]∨∃g o,a=some ⟨g,o,none⟩∧B≤g∧g<w.heap.size∧
  ∀i (h:i<ss.length),w.cell? ⟨g,o+i*6,none⟩=some (.int .i64 ss[i].kind)∧w.cell? ⟨g,o+i*6+1,none⟩=some (.int .i64 ss[i].parent)∧w.cell? ⟨g,o+i*6+2,none⟩=some (.string ss[i].name)∧w.cell? ⟨g,o+i*6+3,none⟩=some (.int .i64 ss[i].arg)∧
   ∃vc ve,w.cell? ⟨g,o+i*6+4,none⟩=some vc∧w.cell? ⟨g,o+i*6+5,none⟩=some ve∧Nd.At w B vc ss[i].cond∧Nd.At w B ve ss[i].expr)
theorem At.kept {w w':World} {B:Nat} {v:Value} {ss:List StepD} (h:At w B v ss) (hs:w.heap.size≤w'.heap.size) (hb:∀g,B≤g→g<w.heap.size→w'.heap[g]?=w.heap[g]?):At w' B v ss:=by
 obtain ⟨a,cap,rfl,hle,hmx,h⟩:=h
 refine ⟨a,cap,rfl,hle,hmx,?_⟩
 rcases h with h | ⟨g,o,rfl,hB,hg,hc⟩
 ·exact .inl h
 ·refine .inr ⟨g,o,rfl,hB,Nat.lt_of_lt_of_le hg hs,fun i hi=>?_⟩
  have e:∀off,w'.cell? ⟨g,off,none⟩=w.cell? ⟨g,off,none⟩:=fun off=>by simp only [World.cell?,hb g hB hg]
  obtain ⟨h0,h1,h2,h3,vc,ve,h4,h5,h6,h7⟩:=hc i hi
  exact ⟨(e _).trans h0,(e _).trans h1,(e _).trans h2,(e _).trans h3,vc,ve,(e _).trans h4,(e _).trans h5,h6.kept hs hb,h7.kept hs hb⟩
theorem At.below {w w':World} {B:Nat} {v:Value} {ss:List StepD} (h:At w B v ss) (hb:Below w.heap.size w w'):At w' B v ss:=h.kept hb.size (fun g _ hg=>hb.block g hg)
theorem At.setBelow {w:World} {B:Nat} {v:Value} {ss:List StepD} (h:At w B v ss) {b o:Nat} (ha:b<B) (x:Value):At (w.setCell ⟨b,o,none⟩ x) B v ss:=
 h.kept (by simp [World.setCell]) (fun g hg _=>Below.heap_setCell _ _ _ _ (by dsimp only;omega))
theorem At.mono {w:World} {B B':Nat} {v:Value} {ss:List StepD} (h:At w B v ss) (hB:B'≤B):At w B' v ss:=by
 obtain ⟨a,cap,rfl,hle,hmx,h⟩:=h
 refine ⟨a,cap,rfl,hle,hmx,?_⟩
 rcases h with h | ⟨g,o,rfl,hb,hg,hc⟩
 ·exact .inl h
 ·refine .inr ⟨g,o,rfl,Nat.le_trans hB hb,hg,fun i hi=>?_⟩
  obtain ⟨h0,h1,h2,h3,vc,ve,h4,h5,h6,h7⟩:=hc i hi
  exact ⟨h0,h1,h2,h3,vc,ve,h4,h5,h6.mono hB,h7.mono hB⟩
theorem At.slice {w:World} {B:Nat} {v:Value} {ss:List StepD} (h:At w B v ss):∃a cap,v=.slice a ss.length cap:=by
 obtain ⟨a,cap,rfl,_⟩:=h;exact ⟨a,cap,rfl⟩
theorem At.at {w:World} {B:Nat} {a:Option Addr} {n cap:Nat} {ss:List StepD} (h:At w B (.slice a n cap) ss) {i:Nat} (hi:i<ss.length):
    ∃g o vc ve,a=some ⟨g,o,none⟩∧g<w.heap.size∧w.cell? ⟨g,o+i*6,none⟩=some (.int .i64 ss[i].kind)∧w.cell? ⟨g,o+i*6+1,none⟩=some (.int .i64 ss[i].parent)∧w.cell? ⟨g,o+i*6+2,none⟩=some (.string ss[i].name)∧w.cell? ⟨g,o+i*6+3,none⟩=some (.int .i64 ss[i].arg)∧
     w.cell? ⟨g,o+i*6+4,none⟩=some vc∧w.cell? ⟨g,o+i*6+5,none⟩=some ve∧Nd.At w B vc ss[i].cond∧Nd.At w B ve ss[i].expr:=by
 obtain ⟨a',cap',e,_,_,h⟩:=h
 cases e
 rcases h with h | ⟨g,o,rfl,_,hg,hc⟩
 ·subst h;simp at hi
 ·obtain ⟨h0,h1,h2,h3,vc,ve,h4⟩:=hc i hi
  exact ⟨g,o,vc,ve,rfl,hg,h0,h1,h2,h3,h4⟩
theorem At.cap {w:World} {B:Nat} {a:Option Addr} {n cap:Nat} {ss:List StepD} (h:At w B (.slice a n cap) ss):ss.length≤cap∧cap≤maxLen:=by
 obtain ⟨a',cap',e,h1,h2,_⟩:=h;cases e;exact ⟨h1,h2⟩
def Ok (ss:List StepD):Prop:=∀s∈ss,s.name.size≤maxLen∧s.cond.length≤maxLen∧s.expr.length≤maxLen
def Small1 (n:Int) (s:StepD):Prop:=(s.name.size:Int)≤n∧(s.cond.length:Int)≤n∧(s.expr.length:Int)≤n
def Small (n:Int) (ss:List StepD):Prop:=(ss.length:Int)≤n∧∀s∈ss,Small1 n s
theorem Small1.mono {m n:Int} {s:StepD} (h:Small1 m s) (hm:m≤n):Small1 n s:=⟨Int.le_trans h.1 hm,Int.le_trans h.2.1 hm,Int.le_trans h.2.2 hm⟩
theorem Small.at {n:Int} {ss:List StepD} (h:Small n ss) {i:Nat} (hi:i<ss.length):Small1 n ss[i]:=h.2 _ (List.getElem_mem hi)
set_option maxRecDepth 100000 in
set_option maxHeartbeats 1000000 in
theorem szOne (B:Nat) (x:StepD) (vc ve:Value) (n:Int) (w:World) (h0:0≤n) (hn:n≤1048576) (h1:x.name.size≤maxLen) (h2:x.cond.length≤maxLen) (h3:x.expr.length≤maxLen) (hc:Nd.At w B vc x.cond) (he:Nd.At w B ve x.expr):
    Calls Tryz.prog 140 #[.agg #[.int .i64 x.kind,.int .i64 x.parent,.string x.name,.int .i64 x.arg,vc,ve],.int .i64 n] w fun e w'=>(∃r:Int,e=.returned (.int .i64 r)∧-1≤r∧r≤n∧(0≤r→Small1 n x))∧Below w.heap.size w w':=by
 unfold maxLen at h1
 obtain ⟨a,cap,rfl⟩:=hc.slice
 obtain ⟨a2,cap2,rfl⟩:=he.slice
 have HC:=hid hc
 have HE:=hid he
 clear hc he
 have hB:Below w.heap.size w (w.alloc (.cells #[.int .i64 x.kind,.int .i64 x.parent,.string x.name,.int .i64 x.arg,.slice a x.cond.length cap,.slice a2 x.expr.length cap2] 204)):=(Below.refl _ w).alloc (Nat.le_refl _) _
 have HC2:=hid (HC.out.below hB)
 have HE2:=hid (HE.out.below hB)
 clear HC HE
 by_cases q1:n - (x.name.size:Int)<0
 ·go_enter Tryz.func140,Tryz.ntmps140
  go_wp2
  go_ret
  exact ⟨⟨-1,rfl,by omega,by omega,by omega⟩,hB⟩
 ·go_enter Tryz.func140,Tryz.ntmps140
  go_wp2_with fail
  refine (Nd.szS x.cond _ (n - x.name.size) B _ (by omega) (by omega) h2 HC2.out).mono ?_
  rintro e w1 ⟨⟨r,rfl,hr1,hr2,hr3⟩,rfl⟩
  by_cases hr:r<0
  ·go_wp2
   go_ret
   exact ⟨⟨-1,rfl,by omega,by omega,by omega⟩,hB⟩
  ·have hr3':=hr3 (by omega)
   clear hr3
   go_wp2_with fail
   refine (Nd.szS x.expr _ r B _ (by omega) (by omega) h3 HE2.out).mono ?_
   rintro e w1 ⟨⟨r2,rfl,hr4,hr5,hr6⟩,rfl⟩
   by_cases hr':r2<0
   ·go_wp2
    go_ret
    exact ⟨⟨-1,rfl,by omega,by omega,by omega⟩,hB⟩
   ·have hr6':=hr6 (by omega)
    clear hr6
    go_wp2
    go_ret
    exact ⟨⟨r2,rfl,by omega,by omega,fun _=>⟨by omega,by omega,by omega⟩⟩,hB⟩
set_option maxRecDepth 100000 in
set_option maxHeartbeats 1000000 in
theorem szS (B:Nat) (ss:List StepD) (v:Value) (n:Int) (w:World) (h0:0≤n) (hn:n≤1048576) (hl:ss.length≤maxLen) (hk:Ok ss) (ha:At w B v ss):
    Calls Tryz.prog 95 #[v,.int .i64 n] w fun e w'=>(∃r:Int,e=.returned (.int .i64 r)∧-1≤r∧r≤n∧(0≤r→Small n ss))∧Below w.heap.size w w':=by
 obtain ⟨a,cap,rfl⟩:=ha.slice
 have HA:=hid ha
 have HK:=hid hk
 clear ha hk
 unfold maxLen at hl
 by_cases q1:n - (ss.length:Int)<0
 ·go_enter Tryz.func95,Tryz.ntmps95
  go_wp2
  go_ret
  exact ⟨⟨-1,rfl,by omega,by omega,by omega⟩,Below.refl _ _⟩
 ·go_enter Tryz.func95,Tryz.ntmps95
  go_wp2
  go_loopw [1,5] (fun m i wr=>∃(k:Nat) (z:Int),i=.int .i64 k∧m=.int .i64 z∧0≤z∧z≤n∧k≤ss.length∧Hid (∀j (h:j<ss.length),j<k→Small1 n ss[j])∧Below w.heap.size w wr) (fun _ i _=>ss.length - (intOf i).toNat)
  case atStart=>exact ⟨0,_,rfl,rfl,by omega,by omega,Nat.zero_le _,fun j _ h=>by omega,Below.refl _ _⟩
  case round=>
   obtain ⟨k,z,rfl,rfl,hz0,hzn,hkl,HJ,hbel⟩:=hrel
   by_cases hlt:k<ss.length
   ·obtain ⟨g,o,vc,ve,rfl,hg,c0,c1,c2,c3,c4,c5,hvc,hve⟩:=(HA.out.below hbel).at hlt
    obtain ⟨a2,cap2,rfl⟩:=hvc.slice
    obtain ⟨a3,cap3,rfl⟩:=hve.slice
    have HV:=hid hvc
    have HE:=hid hve
    clear hvc hve
    have hke:=HK.out ss[k] (List.getElem_mem hlt)
    have hke1:=hke.1
    have hke2:=hke.2.1
    have hke3:=hke.2.2
    clear hke
    have q1:(k:Int)<(ss.length:Int):=by omega
    go_wp2_with fail
    refine (szOne B ss[k] _ _ z _ hz0 (by omega) hke1 hke2 hke3 HV.out HE.out).mono ?_
    rintro e w1 ⟨⟨r,rfl,hr1,hr2,hr3⟩,hb1⟩
    have hB:=hbel.trans (hb1.mono hbel.size)
    by_cases hr:r<0
    ·go_wp2
     go_ret
     exact ⟨⟨-1,rfl,by omega,by omega,by omega⟩,hB⟩
    ·have HJ2:Hid (∀j (h:j<ss.length),j<k+1→Small1 n ss[j]):=hid (fun j h hj=>by
      by_cases e:j=k
      ·subst e
       exact (hr3 (by omega)).mono hzn
      ·exact HJ.out j h (by omega))
     go_wp2
     exact ⟨⟨k+1,r,by simp,rfl,by omega,by omega,by omega,HJ2,hB⟩,by simp [intOf];omega⟩
   ·have HJ2:Hid (Small n ss):=hid ⟨by omega,fun x hx=>by
     obtain ⟨j,hj,rfl⟩:=List.getElem_of_mem hx
     exact HJ.out j hj (by omega)⟩
    go_wp2
    go_ret
    exact ⟨⟨z,rfl,by omega,by omega,fun _=>HJ2.out⟩,hbel⟩
end St
end Go.Proofs.YtccklgopcjilcaaGreatDoor
/- Plain facts about trees of marks, of no program: names, values, attrs, what is wrong with a tree. -/
namespace Go.Proofs.YtccklgopcjilcaaGreatDoor
set_option linter.unusedVariables false
namespace Tr
structure AttrD where
 name:ByteArray
 value:ByteArray
structure ElemD where
 tag:ByteArray
 parent:Int
 attrs:List AttrD
def ints (l:List Nat):List Int:=l.map fun (n:Nat)=>(n:Int)
def top:List Nat→Int
 | []=>-1
 | a :: _=>a
def Chain (es:List ElemD):List Nat→Prop
 | []=>True
 | a :: r=>(∃e,es[a]?=some e∧e.parent=top r)∧top r<a∧Chain es r
def cutTo (p:Int):List Nat→List Nat
 | []=>[]
 | a :: r=>if (a:Int)=p then a :: r else cutTo p r
def onPath (p:Int) (S:List Nat):Bool:=S.any fun a=>decide ((a:Int)=p)
theorem top_lt {es:List ElemD} {a:Nat} {r:List Nat} (h:Chain es (a :: r)):top r<a:=h.2.1
theorem top_ge (S:List Nat):-1≤top S:=by
 cases S with
 | nil=>exact Int.le_refl _
 | cons a r=>show (-1:Int)≤(a:Int);omega
theorem chain_tail {es:List ElemD} {a:Nat} {r:List Nat} (h:Chain es (a :: r)):Chain es r:=h.2.2
theorem chain_cut {es:List ElemD} {p:Int}:∀ {S:List Nat},Chain es S→Chain es (cutTo p S)
 | [],h=>trivial
 | a :: r,h=>by
  unfold cutTo
  split
  ·exact h
  ·exact chain_cut h.2.2
theorem top_cut {p:Int}:∀ {S:List Nat},onPath p S=true→top (cutTo p S)=p
 | [],h=>by simp [onPath] at h
 | a :: r,h=>by
  unfold cutTo
  split
  ·next he=>simpa [top] using he
  ·next he=>
   refine top_cut ?_
   simpa [onPath,he] using h
theorem cut_le {p:Int}:∀ {S:List Nat},(cutTo p S).length≤S.length
 | []=>Nat.le_refl _
 | a :: r=>by
  unfold cutTo
  split
  ·exact Nat.le_refl _
  ·exact Nat.le_trans cut_le (by simp)
theorem on_lt {es:List ElemD} {p:Int}:∀ {S:List Nat},Chain es S→onPath p S=true→p≤top S
 | [],_,h=>by simp [onPath] at h
 | a :: r,hc,h=>by
  simp only [onPath,List.any_cons,Bool.or_eq_true,decide_eq_true_eq] at h
  rcases h with h | h
  ·simp [top];omega
  ·have:=on_lt hc.2.2 h
   have:=hc.2.1
   simp [top];omega
theorem onPath_cons {p:Int} {a:Nat} {r:List Nat}:onPath p (a :: r)=(decide ((a:Int)=p) || onPath p r):=rfl
theorem cut_yes {p:Int} {a:Nat} {r:List Nat} (h:(a:Int)=p):cutTo p (a :: r)=a :: r:=by rw [cutTo,if_pos h]
theorem cut_no {p:Int} {a:Nat} {r:List Nat} (h:(a:Int)≠p):cutTo p (a :: r)=cutTo p r:=by rw [cutTo,if_neg h]
/-! ### names and values -/
def azByte (c:UInt8):Bool:=decide (97≤c.toNat)&&decide (c.toNat≤122)
def azAll (l:List UInt8):Bool:=l.all azByte
def nf (l:List UInt8):Int:=if azAll l=false then 5 else if l.length=0 then 5 else if 8<l.length then 2 else 0
def plainB (c:UInt8):Bool:=decide (32≤c.toNat)&&decide (c.toNat≤126)
def plainAll (l:List UInt8):Bool:=l.all plainB
def vcode (l:List UInt8):Int:=if 40<l.length then 2 else if plainAll l=false then 5 else 0
def hasName (l:List AttrD) (nm:ByteArray):Bool:=l.any fun a=>a.name.toList==nm.toList
def acodeFrom (pre:List AttrD):List AttrD→Int
 | []=>0
 | a :: r=>if nf a.name.data.toList≠0 then nf a.name.data.toList else if hasName pre a.name then 6 else if vcode a.value.data.toList≠0 then vcode a.value.data.toList else acodeFrom (pre++[a]) r
def acode (l:List AttrD):Int:=acodeFrom [] l
/-! ### what is wrong with a tree -/
def faultFrom (i:Nat) (S:List Nat):List ElemD→Int
 | []=>0
 | e :: r=>
  if nf e.tag.data.toList≠0 then nf e.tag.data.toList
  else if (i=0∧e.parent≠-1)∨(0<i∧¬(0≤e.parent∧e.parent<i)) then 3
  else if 0<i∧onPath e.parent S=false then 1
  else if 8<(cutTo e.parent S).length+1∨6<e.attrs.length then 2
  else if acode e.attrs≠0 then acode e.attrs
  else faultFrom (i+1) (i :: cutTo e.parent S) r
def fault (es:List ElemD):Int:=if es.length<1∨40<es.length then 2 else faultFrom 0 [] es
structure Seen (es:List ElemD) (i:Nat) (S:List Nat):Prop where
 le:i≤es.length
 chain:Chain es S
 deep:S.length≤8
 first:top S=(i:Int) - 1
 same:fault es=faultFrom i S (es.drop i)
theorem Seen.start {es:List ElemD} (h1:¬es.length<1) (h2:¬40<es.length):Seen es 0 []:=
 ⟨Nat.zero_le _,trivial,by simp,rfl,by unfold fault;rw [if_neg (by omega)];rfl⟩
theorem drop_cons {es:List ElemD} {i:Nat} (h:i<es.length):es.drop i=es[i] :: es.drop (i+1):=List.drop_eq_getElem_cons h
theorem Seen.name {es:List ElemD} {i:Nat} {S:List Nat} (s:Seen es i S) (h:i<es.length) (hn:nf es[i].tag.data.toList≠0):fault es=nf es[i].tag.data.toList:=by
 rw [s.same,drop_cons h,faultFrom,if_pos hn]
theorem Seen.range {es:List ElemD} {i:Nat} {S:List Nat} (s:Seen es i S) (h:i<es.length) (hn:nf es[i].tag.data.toList=0)
    (hp:(i=0∧es[i].parent≠-1)∨(0<i∧¬(0≤es[i].parent∧es[i].parent<i))):fault es=3:=by
 rw [s.same,drop_cons h,faultFrom,if_neg (by simp [hn]),if_pos hp]
theorem Seen.form {es:List ElemD} {i:Nat} {S:List Nat} (s:Seen es i S) (h:i<es.length) (hn:nf es[i].tag.data.toList=0)
    (hp:¬((i=0∧es[i].parent≠-1)∨(0<i∧¬(0≤es[i].parent∧es[i].parent<i)))) (hf:0<i∧onPath es[i].parent S=false):fault es=1:=by
 rw [s.same,drop_cons h,faultFrom,if_neg (by simp [hn]),if_neg hp,if_pos hf]
theorem Seen.many {es:List ElemD} {i:Nat} {S:List Nat} (s:Seen es i S) (h:i<es.length) (hn:nf es[i].tag.data.toList=0)
    (hp:¬((i=0∧es[i].parent≠-1)∨(0<i∧¬(0≤es[i].parent∧es[i].parent<i)))) (hf:¬(0<i∧onPath es[i].parent S=false))
    (hm:8<(cutTo es[i].parent S).length+1∨6<es[i].attrs.length):fault es=2:=by
 rw [s.same,drop_cons h,faultFrom,if_neg (by simp [hn]),if_neg hp,if_neg hf,if_pos hm]
theorem next_chain {es:List ElemD} {i:Nat} {S:List Nat} (hc:Chain es S) (h1:top S=(i:Int) - 1) (h:i<es.length)
    (hp:¬((i=0∧es[i].parent≠-1)∨(0<i∧¬(0≤es[i].parent∧es[i].parent<i)))) (hf:¬(0<i∧onPath es[i].parent S=false)):
    Chain es (i :: cutTo es[i].parent S):=by
 have e1:es[i].parent=top (cutTo es[i].parent S):=by
  rcases Nat.eq_zero_or_pos i with h0 | h0
  ·subst h0
   cases S with
   | nil=>have:¬es[0].parent≠-1:=fun e=>hp (.inl ⟨rfl,e⟩)
          show es[0].parent=-1
          omega
   | cons a r=>exact absurd h1 (by show ¬((a:Int)=(0:Nat) - 1);omega)
  ·refine (top_cut ?_).symm
   cases hb:onPath es[i].parent S
   ·exact absurd ⟨h0,hb⟩ hf
   ·rfl
 refine ⟨⟨es[i],List.getElem?_eq_getElem h,e1⟩,?_,chain_cut hc⟩
 rw [←e1]
 rcases Nat.eq_zero_or_pos i with h0 | h0
 ·have:¬es[i].parent≠-1:=fun e=>hp (.inl ⟨h0,e⟩)
  omega
 ·have:¬ ¬(0≤es[i].parent∧es[i].parent<i):=fun e=>hp (.inr ⟨h0,e⟩)
  omega
theorem Seen.next {es:List ElemD} {i:Nat} {S:List Nat} (s:Seen es i S) (h:i<es.length) (hn:nf es[i].tag.data.toList=0)
    (hp:¬((i=0∧es[i].parent≠-1)∨(0<i∧¬(0≤es[i].parent∧es[i].parent<i)))) (hf:¬(0<i∧onPath es[i].parent S=false))
    (hm:¬(8<(cutTo es[i].parent S).length+1∨6<es[i].attrs.length)) (ha:acode es[i].attrs=0):Seen es (i+1) (i :: cutTo es[i].parent S):=by
 refine ⟨h,next_chain s.chain s.first h hp hf,by simp only [List.length_cons];omega,by simp [top],?_⟩
 rw [s.same,drop_cons h,faultFrom,if_neg (by simp [hn]),if_neg hp,if_neg hf,if_neg hm,if_neg (by simp [ha])]
theorem Seen.done {es:List ElemD} {i:Nat} {S:List Nat} (s:Seen es i S) (h:¬i<es.length):fault es=0:=by
 rw [s.same,List.drop_eq_nil_of_le (by omega)];rfl
/-! ### attrs -/
structure SeenA (l:List AttrD) (k:Nat):Prop where
 le:k≤l.length
 same:acode l=acodeFrom (l.take k) (l.drop k)
theorem SeenA.start (l:List AttrD):SeenA l 0:=⟨Nat.zero_le _,by simp [acode]⟩
theorem dropA {l:List AttrD} {i:Nat} (h:i<l.length):l.drop i=l[i] :: l.drop (i+1):=List.drop_eq_getElem_cons h
theorem SeenA.name {l:List AttrD} {k:Nat} (s:SeenA l k) (h:k<l.length) (hn:nf l[k].name.data.toList≠0):acode l=nf l[k].name.data.toList:=by
 rw [s.same,dropA h,acodeFrom,if_pos hn]
theorem SeenA.value {l:List AttrD} {k:Nat} (s:SeenA l k) (h:k<l.length) (hn:nf l[k].name.data.toList=0) (ht:hasName (l.take k) l[k].name=false) (hv:vcode l[k].value.data.toList≠0):acode l=vcode l[k].value.data.toList:=by
 rw [s.same,dropA h,acodeFrom,if_neg (by simp [hn]),if_neg (by simp [ht]),if_pos hv]
theorem SeenA.next {l:List AttrD} {k:Nat} (s:SeenA l k) (h:k<l.length) (hn:nf l[k].name.data.toList=0) (ht:hasName (l.take k) l[k].name=false) (hv:vcode l[k].value.data.toList=0):SeenA l (k+1):=by
 refine ⟨h,?_⟩
 rw [s.same,dropA h,acodeFrom,if_neg (by simp [hn]),if_neg (by simp [ht]),if_neg (by simp [hv]),List.take_succ_eq_append_getElem h]
theorem SeenA.done {l:List AttrD} {k:Nat} (s:SeenA l k) (h:¬k<l.length):acode l=0:=by
 rw [s.same,List.drop_eq_nil_of_le (by omega)];rfl
end Tr
end Go.Proofs.YtccklgopcjilcaaGreatDoor
/- Lists of numbers in memory, and what the law does with them: copied, compared. -/
namespace Go.Proofs.YtccklgopcjilcaaGreatDoor
open Go.RowKit Go.Deep
set_option linter.unusedVariables false
namespace Nu
def At (w:World) (B:Nat) (v:Value) (xs:List Int):Prop:=
 ∃a cap,v=.slice a xs.length cap∧xs.length≤cap∧cap≤maxLen∧(xs=[]∨∃g o,a=some ⟨g,o,none⟩∧B≤g∧g<w.heap.size∧∀i (h:i<xs.length),w.cell? ⟨g,o+i,none⟩=some (.int .i64 xs[i]))
theorem At.kept {w w':World} {B:Nat} {v:Value} {xs:List Int} (h:At w B v xs) (hs:w.heap.size≤w'.heap.size) (hb:∀g,B≤g→g<w.heap.size→w'.heap[g]?=w.heap[g]?):At w' B v xs:=by
 obtain ⟨a,cap,rfl,hle,hmx,h⟩:=h
 refine ⟨a,cap,rfl,hle,hmx,?_⟩
 rcases h with h | ⟨g,o,rfl,hB,hg,hc⟩
 ·exact .inl h
 ·refine .inr ⟨g,o,rfl,hB,Nat.lt_of_lt_of_le hg hs,fun i hi=>?_⟩
  have e:∀off,w'.cell? ⟨g,off,none⟩=w.cell? ⟨g,off,none⟩:=fun off=>by simp only [World.cell?,hb g hB hg]
  simp only [e]
  exact hc i hi
theorem At.below {w w':World} {B:Nat} {v:Value} {xs:List Int} (h:At w B v xs) (hb:Below w.heap.size w w'):At w' B v xs:=h.kept hb.size (fun g _ hg=>hb.block g hg)
theorem At.setBelow {w:World} {B:Nat} {v:Value} {xs:List Int} (h:At w B v xs) {b o:Nat} (ha:b<B) (x:Value):At (w.setCell ⟨b,o,none⟩ x) B v xs:=
 h.kept (by simp [World.setCell]) (fun g hg _=>Below.heap_setCell _ _ _ _ (by dsimp only;omega))
theorem At.mono {w:World} {B B':Nat} {v:Value} {xs:List Int} (h:At w B v xs) (hB:B'≤B):At w B' v xs:=by
 obtain ⟨a,cap,rfl,hle,hmx,h⟩:=h
 refine ⟨a,cap,rfl,hle,hmx,?_⟩
 rcases h with h | ⟨g,o,rfl,hb,hg,hc⟩
 ·exact .inl h
 ·exact .inr ⟨g,o,rfl,Nat.le_trans hB hb,hg,hc⟩
theorem At.slice {w:World} {B:Nat} {v:Value} {xs:List Int} (h:At w B v xs):∃a cap,v=.slice a xs.length cap:=by
 obtain ⟨a,cap,rfl,_⟩:=h;exact ⟨a,cap,rfl⟩
theorem At.at {w:World} {B:Nat} {a:Option Addr} {n cap:Nat} {xs:List Int} (h:At w B (.slice a n cap) xs) {i:Nat} (hi:i<xs.length):
    ∃g o,a=some ⟨g,o,none⟩∧g<w.heap.size∧w.cell? ⟨g,o+i,none⟩=some (.int .i64 xs[i]):=by
 obtain ⟨a',cap',e,_,_,h⟩:=h
 cases e
 rcases h with h | ⟨g,o,rfl,_,hg,hc⟩
 ·subst h;simp at hi
 ·exact ⟨g,o,rfl,hg,hc i hi⟩
theorem At.cap {w:World} {B:Nat} {a:Option Addr} {n cap:Nat} {xs:List Int} (h:At w B (.slice a n cap) xs):xs.length≤cap∧cap≤maxLen:=by
 obtain ⟨a',cap',e,h1,h2,_⟩:=h;cases e;exact ⟨h1,h2⟩
theorem cellsOne:Tryz.prog.cellsOf 2=1:=by kernel_rfl
theorem cellsI64:Tryz.prog.cellsOf 2=1:=by kernel_rfl
section
variable {H : Type} {enc : TypeId × Value → H} {w : World} {base : Nat} {spare : Nat → Bool} {held : Bool} {fuel : Nat}
theorem add_add (a:Addr) (x y:Nat):(a.add x).add y=a.add (x+y):=by
 unfold Addr.add
 by_cases hx:x=0
 ·simp [hx]
 ·by_cases hy:y=0
  ·simp [hy]
  ·simp [hx,hy,Nat.add_assoc]
theorem lt_of_cell {a:Addr} {v:Value} (h:w.cell? a=some v):a.block<w.heap.size:=by
 rcases Nat.lt_or_ge a.block w.heap.size with h1 | h1
 ·exact h1
 ·simp [World.cell?,Array.getElem?_eq_none h1] at h
set_option maxRecDepth 100000 in
theorem open_one {cs:List Value} {x:DataW H × List MemPlace} (h:DataW.trod enc Tryz.prog w base spare held fuel 2 cs=some x):∃e:Int,cs=[.int .i64 e]:=by
 obtain ⟨n1,e1,_,_⟩:=DataW.trod_int Tryz.underlying2 h
 exact ⟨n1,e1⟩
set_option maxRecDepth 100000 in
theorem open_all {v:Value} {x:DataW H × List MemPlace} (h:DataW.trod enc Tryz.prog w base spare held fuel 110 [v]=some x):
    ∃es,At w 0 v es∧es.length≤maxLen:=by
 rcases open_slice Tryz.underlying110 h with ⟨hcs,_⟩ | ⟨a,len,cap,m,n,D,Pl,hcs,hb,hl,hcm,hm,_,hx⟩
 ·obtain rfl:v=.slice none 0 0:=by simpa using hcs
  exact ⟨[],⟨none,0,rfl,Nat.le_refl _,Nat.zero_le _,.inl rfl⟩,Nat.zero_le _⟩
 ·obtain rfl:v=.slice (some a) len cap:=by simpa using hcs
  have hlm:len≤m:=by rw [hm];split <;> omega
  rw [cellsI64] at hx
  have each:∀i,i<len→∃q:Int,w.cell? (a.add (i*1))=some (.int .i64 q):=fun i hi=>by
   obtain ⟨cs',c0,d0⟩:=hx i (by omega)
   obtain ⟨e,rfl⟩:=open_one d0
   obtain ⟨_,_,hc⟩:=World.cells?_some c0
   have k0:=hc 0 (by omega)
   rw [add_add] at k0
   exact ⟨e,k0⟩
  haveI:Inhabited Int:=⟨0⟩
  obtain ⟨F,hF⟩:=choose_lt each
  refine ⟨(List.range len).map F,?_,by simp;omega⟩
  refine ⟨some a,cap,by simp,by simpa using hl,hcm,?_⟩
  rcases Nat.eq_zero_or_pos len with h0 | h0
  ·exact .inl (by simp [h0])
  ·right
   obtain ⟨b,off,spot⟩:=a
   have hspot:spot=none:=by simpa [Addr.add] using World.cell?_spot (hF 0 h0)
   subst hspot
   refine ⟨b,off,rfl,Nat.zero_le _,lt_of_cell (hF 0 h0),fun i hi=>?_⟩
   have hi':i<len:=by simpa using hi
   have h2:=hF i hi'
   simp only [List.getElem_map,List.getElem_range]
   simpa [Go.WideShapes.add_plain] using h2
end
theorem infoOne:(Tryz.prog.info? 2).map (fun i=>(i.zero,i.size,i.bytes))=some (some (Value.int .i64 0),1,8):=by kernel_rfl
theorem make_row {P:Program} {t e:TypeId} {z:Value} {sz bytes:Nat} (ht:P.underlying t=some (.slice e)) (hinfo:(P.info? e).map (fun i=>(i.zero,i.size,i.bytes))=some (some z,sz,bytes))
    (n:Nat) (hb:bytes*n≤281474976710656) (hn:n≤9223372036854775807) (w:World):
    (Instr.makeSlice t (.int .i64 (n:Int)) (.int .i64 (n:Int))).run P w=.ok (.slice (some ⟨w.heap.size,0,none⟩) n n) (w.alloc (.cells (madeCells z.cells (n*sz)) e)):=by
 cases hi:P.info? e with
 | none=>rw [hi] at hinfo;cases hinfo
 | some i=>
  rw [hi] at hinfo
  simp only [Option.map_some,Option.some.injEq,Prod.mk.injEq] at hinfo
  obtain ⟨h1,h2,h3⟩:=hinfo
  have hb':(i.bytes:Int)*(n:Int)≤281474976710656:=by
   have h:((i.bytes*n:Nat):Int)≤281474976710656:=by rw [h3];omega
   rwa [Int.natCast_mul] at h
  have h:=run_make (P:=P) w t e i z ht hi h1 .i64 .i64 n n (by omega) (Int.le_refl _) hb' (by omega)
  rw [h2] at h
  simpa using h
theorem made_row (w:World) (z:Array Value) (n:Nat) (e:TypeId):∃f,(w.alloc (.cells (madeCells z n) e)).rowIs w.heap.size e n f:=by
 have h:=World.rowIs_alloc w (madeCells z n) e (fun i=>(madeCells z n)[i]!) (fun i hi=>by simp [hi])
 rw [size_madeCells] at h
 exact ⟨_,h⟩
def Own (w:World) (B C:Nat) (v:Value) (m:Nat):Prop:=∃g f,v=.slice (some ⟨g,0,none⟩) m m∧B≤g∧g<C∧w.rowIs g 2 (m*1) f
theorem row_at {w:World} {g:Nat} {t:TypeId} {f:Nat→Value} {xs:List Int} (h:w.rowIs g t (xs.length*1) f)
    (hf:∀j (hj:j<xs.length),f (j)=.int .i64 xs[j]) (cap:Nat) (hc:xs.length≤cap) (hm:cap≤maxLen):At w g (.slice (some ⟨g,0,none⟩) xs.length cap) xs:=by
 refine ⟨_,_,rfl,hc,hm,.inr ⟨g,0,rfl,Nat.le_refl _,h.lt,fun i hi=>?_⟩⟩
 have h1:=hf i hi
 simp only [Nat.zero_add]
 rw [←h1];exact h.cell (by omega)
theorem setOne {w:World} {g:Nat} {t:TypeId} {k:Nat} {f:Nat→Value} {xs:List Int} (h:w.rowIs g t (xs.length*1) f)
    (hf:∀j (hj:j<xs.length),j<k→f (j)=.int .i64 xs[j]) (hk:k<xs.length):
    ∃f',(w.setCell ⟨g,k,none⟩ (.int .i64 xs[k])).rowIs g t (xs.length*1) f'∧∀j (hj:j<xs.length),j<k+1→f' (j)=.int .i64 xs[j]:=by
 refine ⟨_,(h.set (k) _),fun j hj hjk=>?_⟩
 by_cases e:j=k
 ·subst e
  simp
 ·have h1:=hf j hj (by omega)
  have n00:¬j=k:=by omega
  simp only [n00,if_false]
  exact h1
set_option maxRecDepth 100000 in
set_option maxHeartbeats 1000000 in
theorem toS2 (B:Nat) (xs:List Int) (v:Value) (w:World) (hl:xs.length≤1048576) (ha:At w B v xs):
    Calls Tryz.prog 190 #[v] w fun e w'=>∃v',e=.returned v'∧At w' w.heap.size v' xs∧Own w' w.heap.size w'.heap.size v' xs.length∧Below w.heap.size w w':=by
 obtain ⟨a,cap,rfl⟩:=ha.slice
 have HA:Hid (At w B (.slice a xs.length cap) xs):=ha
 clear ha
 have hmk:=make_row (P:=Tryz.prog) Tryz.underlying110 infoOne xs.length (by omega) (by omega)
 go_enter Tryz.func190,Tryz.ntmps190
 go_wp2
 go_loopw [4] (fun i wr=>∃(k:Nat) (f:Nat→Value),i=.int .i64 k∧k≤xs.length∧Hid (wr.rowIs w.heap.size 2 (xs.length*1) f)∧Hid (∀j (hj:j<xs.length),j<k→f (j)=.int .i64 xs[j])∧Below w.heap.size w wr) (fun i _=>xs.length - (intOf i).toNat)
 case atStart=>
  obtain ⟨f,hf⟩:=made_row w (Value.int .i64 0).cells (xs.length*1) 2
  exact ⟨0,f,rfl,Nat.zero_le _,(by have h:=hf;simp only [Nat.mul_one] at h ⊢;exact h),fun j _ h=>by omega,(Below.refl _ _).alloc (Nat.le_refl _) _⟩
 case round=>
  obtain ⟨k,f,rfl,hkl,HR,HF,hbel⟩:=hrel
  by_cases hlt:k<xs.length
  ·obtain ⟨g,o,rfl,hg,c0⟩:=(HA.out.below hbel).at hlt
   have q1:(k:Int)<(xs.length:Int):=by omega
   have hb1:Below wr.heap.size wr wr:=Below.refl _ _
   have hR1:wr.rowIs w.heap.size 2 (xs.length*1) f:=HR.out.of_block (hb1.block _ HR.out.lt)
   have d0:=hR1.cell (i:=k) (by omega)
   have f0:=hR1.frozen (k)
   obtain ⟨f',hR2,hF2⟩:=setOne (k:=k) hR1 HF.out hlt
   have HR2:Hid _:=hR2
   have HF2:Hid _:=hF2
   have hB:Below w.heap.size w wr:=hbel.trans (hb1.mono hbel.size)
   clear hR1 hR2 hF2
   go_wp2
   exact ⟨⟨k+1,f',by simp,by omega,HR2,HF2,(hB.setCell (by simp) _)⟩,by simp [intOf];omega⟩
  ·have HX:Hid (At wr w.heap.size (.slice (some ⟨w.heap.size,0,none⟩) xs.length xs.length) xs):=row_at HR.out (fun j hj=>HF.out j hj (by omega)) _ (Nat.le_refl _) (by unfold maxLen;omega)
   go_wp2
   go_ret
   exact ⟨_,rfl,HX.out,⟨w.heap.size,f,rfl,Nat.le_refl _,HR.out.lt,HR.out⟩,hbel⟩
theorem toS (B:Nat) (xs:List Int) (v:Value) (w:World) (hl:xs.length≤1048576) (ha:At w B v xs):
    Calls Tryz.prog 190 #[v] w fun e w'=>∃v',e=.returned v'∧At w' w.heap.size v' xs∧Below w.heap.size w w':=
 (toS2 B xs v w hl ha).mono (fun e w' ⟨v',h1,h2,_,h4⟩=>⟨v',h1,h2,h4⟩)
set_option maxRecDepth 100000 in
set_option maxHeartbeats 2000000 in
theorem eqS (B1 B2:Nat) (xs:List Int) (v1 v2:Value) (w:World) (hl:xs.length≤1048576) (h1:At w B1 v1 xs) (h2:At w B2 v2 xs):
    Calls Tryz.prog 201 #[v1,v2] w fun e w'=>e=.returned (.bool true)∧Below w.heap.size w w':=by
 obtain ⟨a1,c1,rfl⟩:=h1.slice
 obtain ⟨a2,c2,rfl⟩:=h2.slice
 have H1:Hid (At w B1 (.slice a1 xs.length c1) xs):=h1
 have H2:Hid (At w B2 (.slice a2 xs.length c2) xs):=h2
 clear h1 h2
 have hb:((xs.length:Int) != (xs.length:Int))=false:=by simp
 go_enter Tryz.func201,Tryz.ntmps201
 go_wp2
 go_loopw [5] (fun i wr=>∃k:Nat,i=.int .i64 k∧k≤xs.length∧Below w.heap.size w wr) (fun i _=>xs.length - (intOf i).toNat)
 case atStart=>exact ⟨0,rfl,Nat.zero_le _,Below.refl _ _⟩
 case round=>
  obtain ⟨k,rfl,hk,hbel⟩:=hrel
  by_cases hlt:k<xs.length
  ·obtain ⟨g1,o1,rfl,hg1,p0⟩:=(H1.out.below hbel).at hlt
   obtain ⟨g2,o2,rfl,hg2,u0⟩:=(H2.out.below hbel).at hlt
   have r1:(k:Int)<(xs.length:Int):=by omega
   have hne:(xs[k] != xs[k])=false:=by simp
   go_wp2
   go_region
   all_goals go_wp2
   all_goals exact ⟨⟨k+1,by simp,by omega,hbel.drew⟩,by simp [intOf];omega⟩
  ·go_wp2
   go_ret
   exact ⟨rfl,hbel⟩
end Nu
end Go.Proofs.YtccklgopcjilcaaGreatDoor
/- The specification's small functions of expressions. -/
namespace Go.Proofs.YtccklgopcjilcaaGreatDoor
open Go.RowKit
set_option linter.unusedVariables false
namespace Ex
open Nd (NodeD)
set_option maxRecDepth 100000 in
set_option maxHeartbeats 400000 in
theorem specIn (v a b:Int) (w:World):Calls Tryz.prog 118 #[.int .i64 v,.int .i64 a,.int .i64 b] w fun e w'=>e=.returned (.bool (inR v a b))∧w'=w:=by
 unfold inR
 by_cases h1:a≤v
 ·by_cases h2:v≤b
  ·go_enter Tryz.func118,Tryz.ntmps118
   go_wp2
   go_ret
   exact ⟨by simp [h1,h2],rfl⟩
  ·go_enter Tryz.func118,Tryz.ntmps118
   go_wp2
   go_ret
   exact ⟨by simp [h2],rfl⟩
 ·go_enter Tryz.func118,Tryz.ntmps118
  go_wp2
  go_ret
  exact ⟨by simp;omega,rfl⟩
set_option maxRecDepth 100000 in
set_option maxHeartbeats 400000 in
theorem specTwo (k:Int) (w:World):Calls Tryz.prog 259 #[.int .i64 k] w fun e w'=>e=.returned (.bool (two k))∧w'=w:=by
 have HI:=hid (fun w'=>specIn k 3 9 w')
 go_enter Tryz.func259,Tryz.ntmps259
 go_wp2_with (go_at_call 118;refine (HI.out _).mono ?_;rintro e w' ⟨rfl,rfl⟩)
 go_ret
 exact ⟨rfl,rfl⟩
set_option maxRecDepth 100000 in
set_option maxHeartbeats 1000000 in
theorem specVars (B:Nat) (xs:List Int) (v:Value) (w:World) (hl:xs.length≤1048576) (ha:Nu.At w B v xs):
    Calls Tryz.prog 188 #[v] w fun e w'=>e=.returned (.int .i64 (vFault xs))∧w'=w:=by
 obtain ⟨a,cap,rfl⟩:=ha.slice
 have HA:=hid ha
 clear ha
 by_cases h4:xs.length=4
 ·have b1:((xs.length:Int) != 4)=false:=by simp [h4]
  have H4:=hid h4
  have hlt4:xs.length≤4:=by omega
  clear h4
  go_enter Tryz.func188,Tryz.ntmps188
  go_wp2
  go_loop [3] (fun i=>∃k:Nat,k≤xs.length∧i=.int .i64 k∧Hid (∀j (h:j<xs.length),j<k→inR xs[j] (-1000000) 1000000=true)) (fun i=>xs.length - (intOf i).toNat)
  case atStart=>exact ⟨0,Nat.zero_le _,rfl,fun j _ h=>by omega⟩
  case round=>
   obtain ⟨k,hk,rfl,HJ⟩:=hrel
   by_cases hlt:k<xs.length
   ·obtain ⟨g,o,rfl,hg,c0⟩:=HA.out.at hlt
    have q1:(k:Int)<(xs.length:Int):=by omega
    have HI:=hid (fun w'=>specIn xs[k] (-1000000) 1000000 w')
    cases hin:inR xs[k] (-1000000) 1000000
    ·have HV:=hid (v_bad H4.out hlt hin)
     rw [hin] at HI
     clear hin
     go_wp2_with (go_at_call 118;refine (HI.out _).mono ?_;rintro e w' ⟨rfl,rfl⟩)
     go_ret
     exact ⟨by rw [HV.out];rfl,rfl⟩
    ·rw [hin] at HI
     have HJ2:Hid (∀j (h:j<xs.length),j<k+1→inR xs[j] (-1000000) 1000000=true):=hid (fun j h hj=>by
      by_cases e:j=k
      ·subst e;exact hin
      ·exact HJ.out j h (by omega))
     clear hin
     go_wp2_with (go_at_call 118;refine (HI.out _).mono ?_;rintro e w' ⟨rfl,rfl⟩)
     exact ⟨⟨k+1,by omega,by simp,HJ2⟩,by simp [intOf];omega⟩
   ·have HV:=hid (v_ok H4.out (fun j h=>HJ.out j h (by omega)))
    go_wp2
    go_ret
    exact ⟨by rw [HV.out];rfl,rfl⟩
 ·have b1:((xs.length:Int) != 4)=true:=by simp;omega
  have HV:=hid (v_len h4)
  clear h4
  go_enter Tryz.func188,Tryz.ntmps188
  go_wp2
  go_ret
  exact ⟨by rw [HV.out];rfl,rfl⟩
end Ex
end Go.Proofs.YtccklgopcjilcaaGreatDoor
