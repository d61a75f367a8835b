/- Laid together: SoA, CrM, EoB. -/
import Derived.Test.YtccklgopcjilcaaGreatDoorJCT35
import Derived.Test.YtccklgopcjilcaaGreatDoorJCT2
import Derived.RangeFuncBox
import Derived.Maps.AppendAt
import Derived.Test.YtccklgopcjilcaaGreatDoorJCT11
import Derived.Test.YtccklgopcjilcaaGreatDoorJCT23
import Derived.Laws.CopyOwn
/- Steps that a function has made itself: a row of them, and two rows of nodes for each, in blocks of their own. -/
namespace Go.Proofs.YtccklgopcjilcaaGreatDoor
open Go.RowKit
set_option linter.unusedVariables false
namespace So
open Ex (nval nvals nvals_len nvals_snoc nvals_get)
open Nd (NodeD)
open St (StepD)
open Nst (own)
def SJ (ss:List StepD) (i:Nat):StepD:=ss[i]?.getD ⟨0,0,ByteArray.empty,0,[],[]⟩
theorem SJ_eq {ss:List StepD} {i:Nat} (h:i<ss.length):SJ ss i=ss[i]:=by unfold SJ;rw [List.getElem?_eq_getElem h,Option.getD_some]
theorem SJ_left {ss:List StepD} {x:StepD} {i:Nat} (h:i<ss.length):SJ (ss++[x]) i=SJ ss i:=by unfold SJ;rw [List.getElem?_append_left h]
theorem SJ_last (ss:List StepD) (x:StepD):SJ (ss++[x]) ss.length=x:=by unfold SJ;simp
def scell (s:StepD) (vc ve:Value):List Value:=[.int .i64 s.kind,.int .i64 s.parent,.string s.name,.int .i64 s.arg,vc,ve]
def nsub (v:Value) (l:List NodeD):Nst.Sub:=⟨210,4,v,l.length,nvals l⟩
abbrev subs (ss:List StepD) (C E:Nat→Value):Nat→Nst.Sub:=fun i=>if i % 2=0 then nsub (C (i / 2)) (SJ ss (i / 2)).cond else nsub (E (i / 2)) (SJ ss (i / 2)).expr
abbrev SAt (w:World) (B:Nat) (v:Value) (ss:List StepD) (C E:Nat→Value):Prop:=Nst.At w B 164 6 v ss.length (fun j=>scell (SJ ss j) (C j) (E j)) (2*ss.length) (subs ss C E)
def SOwn (w:World) (B:Nat) (v:Value) (ss:List StepD):Prop:=∃C E,SAt w B v ss C E
theorem SOwn.below {w w':World} {B:Nat} {v:Value} {ss:List StepD} (h:SOwn w B v ss) (hb:Below w.heap.size w w'):SOwn w' B v ss:=by
 obtain ⟨C,E,h⟩:=h;exact ⟨C,E,h.below hb⟩
theorem SOwn.keep {w w':World} {B:Nat} {v:Value} {ss:List StepD} (h:SOwn w B v ss) (hb:∀b,B≤b→b<w.heap.size→w'.heap[b]?=w.heap[b]?):SOwn w' B v ss:=by
 obtain ⟨C,E,h⟩:=h;exact ⟨C,E,h.keep hb⟩
theorem SOwn.mono {w:World} {B B':Nat} {v:Value} {ss:List StepD} (h:SOwn w B v ss) (hb:B'≤B):SOwn w B' v ss:=by
 obtain ⟨C,E,h⟩:=h;exact ⟨C,E,h.mono hb⟩
theorem SOwn.nil (w:World) (B:Nat):SOwn w B (.slice none 0 0) []:=⟨fun _=>.slice none 0 0,fun _=>.slice none 0 0,Nst.At.nil _ _ _ _ _ _⟩
theorem SOwn.slice {w:World} {B:Nat} {v:Value} {ss:List StepD} (h:SOwn w B v ss):∃a cap,v=.slice a ss.length cap:=by
 obtain ⟨C,E,h⟩:=h;exact Nst.own_slice h.row
theorem nodes_own {w:World} {B:Nat} {v:Value} {l:List NodeD} (h:w.ownsRow B 210 4 v l.length (nvals l)):Nd.At w B v l:=by
 rcases Nat.eq_zero_or_pos l.length with h0 | h0
 ·have e:l=[]:=List.eq_nil_of_length_eq_zero h0
  subst e
  rcases h.2 with ⟨rfl,_⟩ | ⟨g,cap,cur,rfl,_,_,_,hm,_⟩
  ·exact ⟨_,_,rfl,Nat.le_refl _,Nat.zero_le _,.inl rfl⟩
  ·exact ⟨_,_,rfl,Nat.zero_le _,hm,.inl rfl⟩
 ·obtain ⟨g,cap,rfl,hB,hg,hc,hm⟩:=Nst.own_some h h0
  refine ⟨_,_,rfl,hc,hm,.inr ⟨g,0,rfl,hB,hg,fun i hi=>?_⟩⟩
  have h0:=h.cellAt (i*4) (by omega)
  have h1:=h.cellAt (i*4+1) (by omega)
  have h2:=h.cellAt (i*4+2) (by omega)
  have h3:=h.cellAt (i*4+3) (by omega)
  have h4:=nvals_get l i hi
  rw [Nat.zero_add]
  exact ⟨h0.trans h4.1,h1.trans h4.2.1,h2.trans h4.2.2.1,h3.trans h4.2.2.2⟩
theorem sub_even (ss:List StepD) (C E:Nat→Value) (j:Nat):subs ss C E (2*j)=nsub (C j) (SJ ss j).cond:=by
 have h1:2*j % 2=0:=by omega
 have h2:2*j / 2=j:=by omega
 simp only [subs,h1,h2,if_true]
theorem sub_odd (ss:List StepD) (C E:Nat→Value) (j:Nat):subs ss C E (2*j+1)=nsub (E j) (SJ ss j).expr:=by
 have h1:¬(2*j+1) % 2=0:=by omega
 have h2:(2*j+1) / 2=j:=by omega
 simp only [subs,h1,h2,if_false]
theorem SAt.cond {w:World} {B:Nat} {v:Value} {ss:List StepD} {C E:Nat→Value} (h:SAt w B v ss C E) {j:Nat} (hj:j<ss.length):w.ownsRow B 210 4 (C j) ss[j].cond.length (nvals ss[j].cond):=by
 have h1:=h.sub (2*j) (by omega)
 rw [sub_even,SJ_eq hj] at h1
 exact h1
theorem SAt.expr {w:World} {B:Nat} {v:Value} {ss:List StepD} {C E:Nat→Value} (h:SAt w B v ss C E) {j:Nat} (hj:j<ss.length):w.ownsRow B 210 4 (E j) ss[j].expr.length (nvals ss[j].expr):=by
 have h1:=h.sub (2*j+1) (by omega)
 rw [sub_odd,SJ_eq hj] at h1
 exact h1
theorem SOwn.steps {w:World} {B:Nat} {v:Value} {ss:List StepD} (h:SOwn w B v ss):St.At w B v ss:=by
 obtain ⟨C,E,h⟩:=h
 rcases Nat.eq_zero_or_pos ss.length with h0 | h0
 ·have e:ss=[]:=List.eq_nil_of_length_eq_zero h0
  subst e
  rcases h.row.2 with ⟨rfl,_⟩ | ⟨g,cap,cur,rfl,_,_,_,hm,_⟩
  ·exact ⟨_,_,rfl,Nat.le_refl _,Nat.zero_le _,.inl rfl⟩
  ·exact ⟨_,_,rfl,Nat.zero_le _,hm,.inl rfl⟩
 ·obtain ⟨g,cap,rfl,hB,hg,hc,hm⟩:=Nst.own_some h.row h0
  refine ⟨_,_,rfl,hc,hm,.inr ⟨g,0,rfl,hB,hg,fun i hi=>?_⟩⟩
  have hl:∀j,j<ss.length→(scell (SJ ss j) (C j) (E j)).length=6:=fun j _=>rfl
  have c0:=h.cell hl hi (i:=0) (by omega)
  have c1:=h.cell hl hi (i:=1) (by omega)
  have c2:=h.cell hl hi (i:=2) (by omega)
  have c3:=h.cell hl hi (i:=3) (by omega)
  have c4:=h.cell hl hi (i:=4) (by omega)
  have c5:=h.cell hl hi (i:=5) (by omega)
  rw [SJ_eq hi] at c0 c1 c2 c3 c4 c5
  rw [Nat.zero_add]
  exact ⟨c0,c1,c2,c3,C i,E i,c4,c5,nodes_own (SAt.cond h hi),nodes_own (SAt.expr h hi)⟩
theorem push_at {w0 w w2:World} {B:Nat} {v v' vc ve:Value} {ss:List StepD} {x:StepD} {C E:Nat→Value} (h:SAt w0 B v ss C E) (hB:B≤w0.heap.size) (hb:∀b,B≤b→b<w0.heap.size→w.heap[b]?=w0.heap[b]?) (hsz:w0.heap.size≤w.heap.size)
    (hc:w.ownsRow w0.heap.size 210 4 vc x.cond.length (nvals x.cond)) (he:w.ownsRow w0.heap.size 210 4 ve x.expr.length (nvals x.expr)) (hce:∀b,own vc b→¬own ve b)
    (hown:w2.ownsRow B 164 6 v' (ss.length+1) (Nst.flat (fun j=>scell (SJ ss j) (C j) (E j)) ss.length++scell x vc ve))
    (hg:w.grownBy w2 v.ownBlock) (hat:v'.ownBlock=v.ownBlock∨v'.ownBlock=some w.heap.size):SOwn w2 B v' (ss++[x]):=by
 have h1:=h.keep hb
 have hvc:∀b,own vc b→w0.heap.size≤b:=fun b hb=>(Nst.own_lt hc hb).1
 have hve:∀b,own ve b→w0.heap.size≤b:=fun b hb=>(Nst.own_lt he hb).1
 let t:Nat→Nst.Sub:=fun i=>if i=0 then nsub vc x.cond else nsub ve x.expr
 have ht:∀i,∀b,own (t i).v b→w0.heap.size≤b:=fun i b hb=>by
  by_cases e:i=0
  ·simp only [t,e,if_true] at hb;exact hvc b hb
  ·simp only [t,e,if_false] at hb;exact hve b hb
 have hp:=h1.push (p:=2) (t:=t) (fun i _=>by
     by_cases e:i=0
     ·simp only [t,e,if_true];exact Nst.own_mono hc hB
     ·simp only [t,e,if_false];exact Nst.own_mono he hB)
  (fun i j hi hj hij b hb1 hb2=>by
   have:(i=0∧j=1)∨(i=1∧j=0):=by omega
   rcases this with ⟨rfl,rfl⟩ | ⟨rfl,rfl⟩
   ·exact hce b hb1 hb2
   ·exact hce b hb2 hb1)
  (fun i j hi _ b e1 e2=>by have:=(Nst.own_lt (h.sub i hi) e1).2;have:=ht j b e2;omega)
  (fun i _ b e1 e2=>by have:=(Nst.own_lt h.row e2).2;have:=ht i b e1;omega) hown hg hat
 refine ⟨fun j=>if j=ss.length then vc else C j,fun j=>if j=ss.length then ve else E j,?_⟩
 unfold SAt
 rw [List.length_append]
 have hl:2*(ss.length+[x].length)=2*ss.length+2:=by simp;omega
 rw [hl]
 refine hp.congr (fun j hj=>?_) (fun i hi=>?_)
 ·by_cases e:j=ss.length
  ·subst e
   simp only [if_true,SJ_last]
  ·have hl:j<ss.length:=Nat.lt_of_le_of_ne (Nat.le_of_lt_succ hj) e
   simp only [e,if_false,SJ_left hl]
 ·by_cases e:i<2*ss.length
  ·have e2:i / 2<ss.length:=by omega
   have e3:¬i / 2=ss.length:=by omega
   simp only [subs,e,if_true,e3,if_false,SJ_left e2]
  ·have e2:i / 2=ss.length:=by omega
   have e4:i=2*ss.length∨i=2*ss.length+1:=by omega
   rcases e4 with rfl | rfl
   ·have e5:2*ss.length % 2=0:=by omega
    have e6:2*ss.length - 2*ss.length=0:=by omega
    simp only [subs,e,if_false,e2,if_true,SJ_last,e5,t,e6]
   ·have e5:¬(2*ss.length+1) % 2=0:=by omega
    have e6:¬(2*ss.length+1 - 2*ss.length=0):=by omega
    simp only [subs,e,if_false,e2,if_true,SJ_last,e5,t,e6]
theorem infoStep:(Tryz.prog.info? 164).map (fun i=>(i.zero,i.size,i.bytes))=some (some (Value.agg #[.int .i64 0,.int .i64 0,.string { data:=#[] },.int .i64 0,.slice none 0 0,.slice none 0 0]),6,88):=by kernel_rfl
theorem news {w:World} (cs:Array Value) (t:TypeId) (b:Nat) (hb:b=w.heap.size):∀j u,cs.toList[j]?=some u→(w.alloc (.cells cs t)).cell? ((⟨b,0,none⟩:Addr).add j)=some u:=by
 subst hb
 intro j u hj
 rw [Go.WideShapes.add_plain]
 simp only [Nat.zero_add,World.cell?_alloc_new]
 simpa using hj
end So
end Go.Proofs.YtccklgopcjilcaaGreatDoor
/- The answer of chapter 9: a code and a chart that owns its three rows; the law's comparison, marks and holds of it. -/
namespace Go.Proofs.YtccklgopcjilcaaGreatDoor
open Go.RowKit Go.Deep
set_option linter.unusedVariables false
namespace Cr
open Ch (RunD hid blk_cell blk_lt new_blk new_at)
open Ints (vals owns_cell owns_some owns_slice owns_below grown_refl grown_after grown_set)
def marksF (k:Int) (n:Nat):List Int:=(List.range n).map fun (i:Nat)=>k+(i:Int)
theorem marksF_len (k:Int) (n:Nat):(marksF k n).length=n:=by simp [marksF]
theorem marksF_succ (k:Int) (n:Nat):marksF k (n+1)=marksF k n++[k+(n:Int)]:=by simp [marksF,List.range_succ]
theorem marksF_get {k:Int} {n i:Nat} (h:i<n):(marksF k n)[i]?=some (k+(i:Int)):=by simp [marksF,h]
def half (k:Int) (xs:List Int) (i:Nat):List Int:=marksF k i++xs.drop i
theorem half_set {k:Int} {xs:List Int} {i:Nat} (h:i<xs.length):(half k xs i).set i (k+(i:Int))=half k xs (i+1):=by
 unfold half
 rw [marksF_succ,List.drop_eq_getElem_cons h,List.set_append_right _ _ (Nat.le_of_eq (marksF_len k i)),marksF_len,Nat.sub_self,List.set_cons_zero,List.append_assoc]
 rfl
theorem own_at {w:World} {B:Nat} {v:Value} {xs:List Int} (h:w.ownsRow B 2 1 v xs.length (vals xs)):Nu.At w B v xs:=by
 have hh:=h
 obtain ⟨hl,⟨rfl,h0⟩ | ⟨g,cap,cur,rfl,hbg,hg,hle,hm,hs,ht⟩⟩:=h
 ·exact ⟨none,0,by rw [h0],by omega,by unfold maxLen;omega,.inl (List.eq_nil_of_length_eq_zero h0)⟩
 ·have hI:=Ints.IntsAt.of hh
  refine ⟨_,cap,rfl,hle,by first | exact hm | (unfold maxLen at *;omega),.inr ⟨g,0,rfl,hbg,blk_lt hg,fun i hi=>?_⟩⟩
  obtain ⟨g',hg',_,hc⟩:=hI.at hi
  cases hg'
  rw [Nat.zero_add]
  exact hc
set_option maxRecDepth 100000 in
set_option maxHeartbeats 2000000 in
theorem markS (B:Nat) (v:Value) (xs:List Int) (k0:Int) (w:World) (hn:xs.length≤1048576) (h0:0<k0) (hk0:k0≤17592186044416) (h:w.ownsRow B 2 1 v xs.length (vals xs)):
    Calls Tryz.prog 126 #[v,.int .i64 k0] w fun e w'=>e=.returned (.int .i64 (k0+(xs.length:Int)))∧w'.ownsRow B 2 1 v xs.length (vals (marksF k0 xs.length))∧w.grownBy w' v.ownBlock:=by
 obtain ⟨a,cap,rfl⟩:=owns_slice h
 have HO:=hid h
 clear h
 go_enter Tryz.func126,Tryz.ntmps126
 go_wp2
 go_loopw [1,5] (fun q i wr=>∃k:Nat,i=.int .i64 k∧q=.int .i64 (k0+(k:Int))∧k≤xs.length∧Hid (wr.ownsRow B 2 1 (.slice a xs.length cap) xs.length (vals (half k0 xs k)))∧w.grownBy wr (Value.slice a xs.length cap).ownBlock) (fun _ i _=>xs.length - (intOf i).toNat)
 case atStart=>exact ⟨0,rfl,by simp,Nat.zero_le _,hid (by simpa [half,marksF] using HO.out),grown_refl _ _⟩
 case round=>
  obtain ⟨k,rfl,rfl,hk,HR,hbel⟩:=hrel
  by_cases hlt:k<xs.length
  ·obtain ⟨g,c2,e2⟩:=owns_some HR.out (by omega)
   cases e2
   have q1:(k:Int)<(xs.length:Int):=by omega
   obtain ⟨⟨u,hcu⟩,hfu,hbg,hgl⟩:=owns_cell HR.out hlt
   have HS:Hid ((wr.setCell ⟨g,k,none⟩ (.int .i64 (k0+(k:Int)))).ownsRow B 2 1 (.slice (some ⟨g,0,none⟩) xs.length cap) xs.length (vals (half k0 xs (k+1)))):=hid (by
    have h:=(HR.out.stored k (.int .i64 (k0+(k:Int)))).1
    have e:(vals (half k0 xs k)).set k (.int .i64 (k0+(k:Int)))=vals (half k0 xs (k+1)):=by
     unfold vals
     rw [←half_set hlt]
     simp
    rw [e] at h
    exact h)
   have hb2:w.grownBy (wr.setCell ⟨g,k,none⟩ (.int .i64 (k0+(k:Int)))) (some g):=grown_set hbel k _
   go_wp2
   exact ⟨⟨k+1,by simp,by simp;omega,by omega,HS,hb2⟩,by simp [intOf];omega⟩
  ·obtain rfl:k=xs.length:=by omega
   have HS:Hid (wr.ownsRow B 2 1 (.slice a xs.length cap) xs.length (vals (marksF k0 xs.length))):=hid (by simpa [half] using HR.out)
   go_wp2
   go_ret
   exact ⟨rfl,HS.out,hbel⟩
set_option maxRecDepth 100000 in
set_option maxHeartbeats 2000000 in
theorem heldS (B:Nat) (v:Value) (n:Nat) (k0:Int) (w:World) (hn:n≤1048576) (h0:0<k0) (hk0:k0≤17592186044416) (h:Nu.At w B v (marksF k0 n)):
    Calls Tryz.prog 170 #[v,.int .i64 k0] w fun e w'=>e=.returned (.int .i64 (k0+(n:Int)))∧w'=w:=by
 obtain ⟨a,cap,rfl⟩:=h.slice
 have H1:=hid h
 clear h
 rw [marksF_len] at H1 ⊢
 go_enter Tryz.func170,Tryz.ntmps170
 go_wp2
 go_loop [1,5] (fun q i=>∃k:Nat,i=.int .i64 k∧q=.int .i64 (k0+(k:Int))∧k≤n) (fun _ i=>n - (intOf i).toNat)
 case atStart=>exact ⟨0,rfl,by simp,Nat.zero_le _⟩
 case round=>
  obtain ⟨k,rfl,rfl,hk⟩:=hrel
  by_cases hlt:k<n
  ·obtain ⟨g,o,rfl,hg,hc⟩:=H1.out.at (i:=k) (by rw [marksF_len];exact hlt)
   have hmt:(marksF k0 n)[k]'(by rw [marksF_len];exact hlt)=k0+(k:Int):=by
    have h:=marksF_get (k:=k0) hlt
    rw [List.getElem?_eq_getElem (by rw [marksF_len];exact hlt)] at h
    exact Option.some.inj h
   rw [hmt] at hc
   have hne:((k0+(k:Int)) != (k0+(k:Int)))=false:=by simp
   clear hmt
   have q1:(k:Int)<(n:Int):=by omega
   go_wp2
   exact ⟨⟨k+1,by simp,by simp;omega,by omega⟩,by simp [intOf];omega⟩
  ·obtain rfl:k=n:=by omega
   go_wp2
   go_ret
   exact ⟨rfl,rfl⟩
structure Own3 (w:World) (B:Nat) (v1 v2 v3:Value) (r:RunD):Prop where
 vars:w.ownsRow B 2 1 v1 r.vars.length (vals r.vars)
 marks:w.ownsRow B 2 1 v2 r.marks.length (vals r.marks)
 dues:w.ownsRow B 2 1 v3 r.dues.length (vals r.dues)
 d12:∀b,v1.ownBlock=some b→v2.ownBlock≠some b
 d13:∀b,v1.ownBlock=some b→v3.ownBlock≠some b
 d23:∀b,v2.ownBlock=some b→v3.ownBlock≠some b
theorem Own3.at' {w:World} {B:Nat} {v1 v2 v3:Value} {r:RunD} (h:Own3 w B v1 v2 v3 r):Ch.At w B v1 v2 v3 r:=⟨own_at h.vars,own_at h.marks,own_at h.dues⟩
theorem Own3.below {w w':World} {B:Nat} {v1 v2 v3:Value} {r:RunD} (h:Own3 w B v1 v2 v3 r) (hb:Below w.heap.size w w'):Own3 w' B v1 v2 v3 r:=⟨owns_below h.vars hb,owns_below h.marks hb,owns_below h.dues hb,h.d12,h.d13,h.d23⟩
theorem own_kept {w w':World} {B:Nat} {v:Value} {n:Nat} {xs:List Value} (ho:w.ownsRow B 2 1 v n xs) (hb:∀b,v.ownBlock=some b→w'.heap[b]?=w.heap[b]?):w'.ownsRow B 2 1 v n xs:=by
 refine ⟨ho.1,?_⟩
 rcases ho.2 with hn | ⟨g,cap,cur,rfl,hbg,hg,rest⟩
 ·exact .inl hn
 ·exact .inr ⟨g,cap,cur,rfl,hbg,by rw [hb g rfl];exact hg,rest⟩
theorem own_base {w:World} {B B':Nat} {v:Value} {n:Nat} {xs:List Value} (h:w.ownsRow B 2 1 v n xs) (hb:B'≤B):w.ownsRow B' 2 1 v n xs:=by
 refine ⟨h.1,?_⟩
 rcases h.2 with hn | ⟨g,cap,cur,rfl,hbg,rest⟩
 ·exact .inl hn
 ·exact .inr ⟨g,cap,cur,rfl,Nat.le_trans hb hbg,rest⟩
theorem own_in {w:World} {B:Nat} {v:Value} {n b:Nat} {xs:List Value} (ho:w.ownsRow B 2 1 v n xs) (h:v.ownBlock=some b):B≤b∧b<w.heap.size:=by
 rcases ho.2 with ⟨rfl,_⟩ | ⟨g,cap,cur,rfl,hbg,hg,rest⟩
 ·cases h
 ·cases h;exact ⟨hbg,blk_lt hg⟩
theorem Own3.kept {w w':World} {B:Nat} {v1 v2 v3:Value} {r:RunD} (h:Own3 w B v1 v2 v3 r) (hb:∀b,B≤b→b<w.heap.size→w'.heap[b]?=w.heap[b]?):Own3 w' B v1 v2 v3 r:=
 ⟨own_kept h.vars (fun b e=>hb b (own_in h.vars e).1 (own_in h.vars e).2),own_kept h.marks (fun b e=>hb b (own_in h.marks e).1 (own_in h.marks e).2),own_kept h.dues (fun b e=>hb b (own_in h.dues e).1 (own_in h.dues e).2),h.d12,h.d13,h.d23⟩
structure Within (w w':World) (B C:Nat):Prop where
 os:w'.os=w.os
 tape:w'.tape=w.tape
 output:w'.output=w.output
 size:w.heap.size≤w'.heap.size
 block:∀b,b<w.heap.size→b<B∨C≤b→w'.heap[b]?=w.heap[b]?
theorem Within.of_below {w w':World} (B C:Nat) (h:Below w.heap.size w w'):Within w w' B C:=⟨h.os,h.tape,h.output,h.size,fun b hb _=>h.block b hb⟩
theorem Within.trans {a b c:World} {B C:Nat} (h:Within a b B C) (h':Within b c B C):Within a c B C:=⟨h'.os.trans h.os,h'.tape.trans h.tape,h'.output.trans h.output,Nat.le_trans h.size h'.size,fun k hk ho=>(h'.block k (Nat.lt_of_lt_of_le hk h.size) ho).trans (h.block k hk ho)⟩
end Cr
end Go.Proofs.YtccklgopcjilcaaGreatDoor
/- Numbers and a chart with memory of their own: ownNumbers, ownChart of the program. -/
namespace Go.Proofs.YtccklgopcjilcaaGreatDoor
open Go.RowKit Go.Deep
set_option linter.unusedVariables false
namespace Eo
open Ex (hid)
open Ints (vals)
theorem splice_all {α:Type} (L cs:List α) (h:L.length=cs.length):splice L 0 cs=cs:=by
 unfold splice
 rw [List.take_zero,List.nil_append,Nat.zero_add,←h,List.drop_length,List.append_nil]
theorem info1:(Tryz.prog.info? 2).map (·.size)=some 1:=by kernel_rfl
set_option maxRecDepth 100000 in
set_option maxHeartbeats 4000000 in
theorem implOwnNumbers (B:Nat) (xs:List Int) (v:Value) (w:World) (hl:xs.length≤1048576) (ha:Nu.At w B v xs):
    Calls Tryz.prog 172 #[v] w fun e w'=>(∃u,e=.returned u∧w'.ownsRow w.heap.size 2 1 u xs.length (vals xs))∧Below w.heap.size w w':=by
 obtain ⟨a,cap,rfl⟩:=ha.slice
 have hmk:=Nu.make_row (P:=Tryz.prog) Tryz.underlying110 Nu.infoOne xs.length (by omega) (by omega)
 have HP:Hid (0<(vals xs).length→∀w',Below w.heap.size w w'→∃ad,a=some ad∧∀j u,(vals xs)[j]?=some u→w'.cell? (ad.add j)=some u):=hid (fun h0 w' hb=>by
  have h1:0<xs.length:=by simpa [vals] using h0
  obtain ⟨g,o,rfl,_,_⟩:=ha.at h1
  refine ⟨_,rfl,fun j u hu=>?_⟩
  have hj:j<xs.length:=by have:=(List.getElem?_eq_some_iff.1 hu).1;simpa [vals] using this
  obtain ⟨g',o',e,hg',hx⟩:=ha.at hj
  cases e
  have hu2:(Value.int .i64 xs[j])=u:=by
   rw [vals,List.getElem?_map,List.getElem?_eq_getElem hj] at hu
   simpa using hu
  rw [Go.WideShapes.add_plain,←hu2]
  exact (hb.cell (p:=⟨g,o+j,none⟩) hg').trans hx)
 clear ha
 obtain ⟨cur,hcur⟩:∃cur:List Value,cur=(madeCells (Value.int .i64 0).cells (xs.length*1)).toList:=⟨_,rfl⟩
 have hcl:cur.length=xs.length:=by rw [hcur];simp [size_madeCells]
 obtain ⟨w0,e0⟩:∃w0,w0=w.alloc (.cells (madeCells (Value.int .i64 0).cells (xs.length*1)) 2):=⟨_,rfl⟩
 have HG:Hid (w0.heap[w.heap.size]?=some (.cells cur.toArray 2 (0,0))):=hid (by rw [e0,hcur];exact Ch.new_blk _ _)
 have HB0:Hid (Below w.heap.size w w0):=hid (by rw [e0];exact (Below.refl _ w).alloc (Nat.le_refl _) _)
 have hvl:(vals xs).length=xs.length:=by simp [vals]
 have HV1:Hid (∀u∈vals xs,u.oneCell'=true):=hid (fun u hu=>by obtain ⟨x,_,rfl⟩:=List.mem_map.1 hu;rfl)
 clear hcur
 obtain ⟨w2,hrun,hg2,hb2⟩:∃w2,(∀ty,(Builtin.copy_ #[110,110] ty #[.slice (some ⟨w.heap.size,0,none⟩) xs.length xs.length,.slice a xs.length cap]).run Tryz.prog w0=.ok (.int .i64 (xs.length:Int)) w2)∧Hid (w2.heap[w.heap.size]?=some (.cells (vals xs).toArray 2 (0,0)))∧Below w.heap.size w w2:=by
  by_cases h0:xs.length=0
  ·have hc0:cur=[]:=List.eq_nil_of_length_eq_zero (by omega)
   have hv0:vals xs=[]:=List.eq_nil_of_length_eq_zero (by omega)
   refine ⟨w0,fun ty=>?_,hid (by rw [hv0,←hc0];exact HG.out),HB0.out⟩
   have h1:=run_copy_none (P:=Tryz.prog) w0 110 110 ty 2 (some ⟨w.heap.size,0,none⟩) a xs.length xs.length xs.length cap Tryz.underlying110 info1 (by rw [h0];rfl)
   rw [h1,h0];rfl
  ·obtain ⟨ad,rfl,hsrc⟩:=HP.out (by omega) _ HB0.out
   refine ⟨_,fun ty=>by
    have h1:=run_copy_row (P:=Tryz.prog) w0 110 110 ty 2 w.heap.size 0 xs.length xs.length ad xs.length cap cur.toArray 2 (vals xs) Tryz.underlying110 info1 HG.out (by rw [hvl];exact (Nat.min_self _).symm) hsrc (by simp;omega) HV1.out
    rw [hvl] at h1
    exact h1,?_,below_setRow HB0.out (Nat.le_refl _) _⟩
   have h3:=splice_all cur (vals xs) (by omega)
   unfold splice at h3
   rw [show cur.toArray.toList.take 0++vals xs++cur.toArray.toList.drop (0+xs.length)=vals xs by rw [List.append_assoc,←hvl];exact h3]
   exact hid (setRow_heap w0 w.heap.size cur.toArray (vals xs).toArray 2 _ HG.out)
 go_enter Tryz.func172,Tryz.ntmps172
 go_upto_region 2 with fail
 simp only [Nat.mul_one,Value.cells] at e0
 rw [←e0]
 clear e0
 have HG2:=hid (show w2.ownsRow w.heap.size 2 1 (.slice (some ⟨w.heap.size,0,none⟩) xs.length xs.length) xs.length (vals xs) from
  ⟨by rw [hvl,Nat.mul_one],.inr ⟨w.heap.size,xs.length,(vals xs).toArray,rfl,Nat.le_refl _,hg2.out,Nat.le_refl _,by unfold maxLen;omega,by simp [hvl],by rw [Nat.mul_one,←hvl];simp⟩⟩)
 clear hg2
 go_wp2
 go_ret
 exact ⟨⟨_,rfl,HG2.out⟩,hb2⟩
structure IIn (w:World) (lo hi:Nat) (v1 v2 v3:Value) (r:Ch.RunD):Prop where
 own:Cr.Own3 w lo v1 v2 v3 r
 lt:∀b,v1.ownBlock=some b∨v2.ownBlock=some b∨v3.ownBlock=some b→b<hi
theorem IIn.of {w:World} {lo:Nat} {v1 v2 v3:Value} {r:Ch.RunD} (h:Cr.Own3 w lo v1 v2 v3 r):IIn w lo w.heap.size v1 v2 v3 r:=
 ⟨h,fun b hb=>by rcases hb with hb | hb | hb;exact (Cr.own_in h.vars hb).2;exact (Cr.own_in h.marks hb).2;exact (Cr.own_in h.dues hb).2⟩
theorem IIn.kept {w w':World} {lo hi:Nat} {v1 v2 v3:Value} {r:Ch.RunD} (h:IIn w lo hi v1 v2 v3 r) (hb:∀b,lo≤b→b<hi→b<w.heap.size→w'.heap[b]?=w.heap[b]?):IIn w' lo hi v1 v2 v3 r:=
 ⟨⟨Cr.own_kept h.own.vars (fun b e=>hb b (Cr.own_in h.own.vars e).1 (h.lt b (.inl e)) (Cr.own_in h.own.vars e).2),Cr.own_kept h.own.marks (fun b e=>hb b (Cr.own_in h.own.marks e).1 (h.lt b (.inr (.inl e))) (Cr.own_in h.own.marks e).2),Cr.own_kept h.own.dues (fun b e=>hb b (Cr.own_in h.own.dues e).1 (h.lt b (.inr (.inr e))) (Cr.own_in h.own.dues e).2),h.own.d12,h.own.d13,h.own.d23⟩,h.lt⟩
theorem bk {w w':World} {b:Nat} {o:Obj} (h:w.heap[b]?=some o) (hb:Below w.heap.size w w'):w'.heap[b]?=some o:=(hb.block b (Ch.blk_lt h)).trans h
set_option maxRecDepth 100000 in
set_option maxHeartbeats 8000000 in
theorem implOwnChart (r:Ch.RunD) (v1 v2 v3:Value) (w:World) (hs:Ch.Small 1048576 r) (ha:Ch.At w 0 v1 v2 v3 r):
    Calls Tryz.prog 135 #[.agg #[.int .i64 r.status,.int .i64 r.now,v1,v2,v3]] w fun e w'=>(∃u1 u2 u3,e=.returned (.agg #[.int .i64 r.status,.int .i64 r.now,u1,u2,u3])∧Cr.Own3 w' w.heap.size u1 u2 u3 r)∧Below w.heap.size w w':=by
 obtain ⟨a1,k1,rfl⟩:=ha.vars.slice
 obtain ⟨a2,k2,rfl⟩:=ha.marks.slice
 obtain ⟨a3,k3,rfl⟩:=ha.dues.slice
 obtain ⟨w0,e0⟩:∃w0,w0=(w.alloc (.cells #[.int .i64 r.status,.int .i64 r.now,.slice a1 r.vars.length k1,.slice a2 r.marks.length k2,.slice a3 r.dues.length k3] 112)).alloc (.cells #[.int .i64 0,.int .i64 0,.slice none 0 0,.slice none 0 0,.slice none 0 0] 112):=⟨_,rfl⟩
 have hb0:Below w.heap.size w w0:=by rw [e0];exact ((Below.refl _ w).alloc (Nat.le_refl _) _).alloc (by simp) _
 have hz0:w0.heap.size=w.heap.size+2:=by rw [e0];simp
 have K0:w0.heap[w.heap.size]?=some (.cells #[.int .i64 r.status,.int .i64 r.now,.slice a1 r.vars.length k1,.slice a2 r.marks.length k2,.slice a3 r.dues.length k3] 112):=by rw [e0,Below.heap_alloc _ _ _ (by simp),Ch.new_blk]
 have Q0:w0.heap[w.heap.size+1]?=some (.cells #[.int .i64 0,.int .i64 0,.slice none 0 0,.slice none 0 0,.slice none 0 0] 112):=by rw [e0];exact Ch.new_at (by simp) _
 have H1:=hid (implOwnNumbers 0 r.vars _ w0 (by have:=hs.vars;omega) (ha.below hb0).vars)
 have HA:=hid ha
 have HS:=hid hs
 have HB0:=hid hb0
 clear ha hs hb0
 go_enter Tryz.func135,Tryz.ntmps135
 go_wp2_with fail
 rw [←e0]
 clear e0
 refine H1.out.mono ?_
 rintro e w1 ⟨⟨u1,rfl,ho1⟩,hb1⟩
 obtain ⟨x1,y1,rfl⟩:=Ints.owns_slice ho1
 have l1:=hb1.size
 have K1:=bk K0 hb1
 have Q1:=bk Q0 hb1
 have k2':w1.cell? ⟨w.heap.size,2,none⟩=some (.slice a1 r.vars.length k1):=Ch.blk_cell K1 2
 have f2:=Ch.blk_free K1 2
 obtain ⟨w2,e2⟩:∃w2,w2=w1.setCell ⟨w.heap.size,2,none⟩ (.slice x1 r.vars.length y1):=⟨_,rfl⟩
 have hz2:w2.heap.size=w1.heap.size:=by rw [e2];exact Ch.size_set
 have hb2:Below w.heap.size w w2:=by rw [e2];exact (HB0.out.trans (hb1.mono HB0.out.size)).setCell (p:=⟨w.heap.size,2,none⟩) (Nat.le_refl _) _
 have K2:w2.heap[w.heap.size]?=some (.cells #[.int .i64 r.status,.int .i64 r.now,.slice x1 r.vars.length y1,.slice a2 r.marks.length k2,.slice a3 r.dues.length k3] 112):=by rw [e2];have:=Ch.blk_set (i:=2) K1 (.slice x1 r.vars.length y1);simpa using this
 have Q2:w2.heap[w.heap.size+1]?=some (.cells #[.int .i64 0,.int .i64 0,.slice none 0 0,.slice none 0 0,.slice none 0 0] 112):=by rw [e2];exact (Below.heap_setCell _ _ _ _ (by simp)).trans Q1
 have O1:=hid (show w2.ownsRow w0.heap.size 2 1 (.slice x1 r.vars.length y1) r.vars.length (vals r.vars) by rw [e2];exact Cr.own_kept ho1 (fun b e=>Below.heap_setCell _ _ _ _ (by have:=(Cr.own_in ho1 e).1;dsimp only;omega)))
 have H2:=hid (implOwnNumbers 0 r.marks _ w2 (by have:=HS.out.marks;omega) (HA.out.below hb2).marks)
 have k3':w1.cell? ⟨w.heap.size,3,none⟩=some (.slice a2 r.marks.length k2):=Ch.blk_cell K1 3
 have z1:w.heap.size<w1.heap.size:=by omega
 have z2:w.heap.size<w2.heap.size:=by omega
 have HB2:=hid hb2
 clear hb1 ho1 hb2
 go_wp2_with fail
 rw [←e2]
 clear e2 k2' f2
 refine H2.out.mono ?_
 rintro e w3 ⟨⟨u2,rfl,ho2⟩,hb3⟩
 obtain ⟨x2,y2,rfl⟩:=Ints.owns_slice ho2
 have l3:=hb3.size
 have K3:=bk K2 hb3
 have Q3:=bk Q2 hb3
 have k3'':w3.cell? ⟨w.heap.size,3,none⟩=some (.slice a2 r.marks.length k2):=Ch.blk_cell K3 3
 have f3:=Ch.blk_free K3 3
 obtain ⟨w4,e4⟩:∃w4,w4=w3.setCell ⟨w.heap.size,3,none⟩ (.slice x2 r.marks.length y2):=⟨_,rfl⟩
 have hz4:w4.heap.size=w3.heap.size:=by rw [e4];exact Ch.size_set
 have hb4:Below w.heap.size w w4:=by rw [e4];exact (HB2.out.trans (hb3.mono HB2.out.size)).setCell (p:=⟨w.heap.size,3,none⟩) (Nat.le_refl _) _
 have K4:w4.heap[w.heap.size]?=some (.cells #[.int .i64 r.status,.int .i64 r.now,.slice x1 r.vars.length y1,.slice x2 r.marks.length y2,.slice a3 r.dues.length k3] 112):=by rw [e4];have:=Ch.blk_set (i:=3) K3 (.slice x2 r.marks.length y2);simpa using this
 have Q4:w4.heap[w.heap.size+1]?=some (.cells #[.int .i64 0,.int .i64 0,.slice none 0 0,.slice none 0 0,.slice none 0 0] 112):=by rw [e4];exact (Below.heap_setCell _ _ _ _ (by simp)).trans Q3
 have O14:=hid (show w4.ownsRow w0.heap.size 2 1 (.slice x1 r.vars.length y1) r.vars.length (vals r.vars) by rw [e4];exact Cr.own_kept (Ints.owns_below O1.out hb3) (fun b e=>Below.heap_setCell _ _ _ _ (by have:=(Cr.own_in O1.out e).1;dsimp only;omega)))
 have O2:=hid (show w4.ownsRow w2.heap.size 2 1 (.slice x2 r.marks.length y2) r.marks.length (vals r.marks) by rw [e4];exact Cr.own_kept ho2 (fun b e=>Below.heap_setCell _ _ _ _ (by have:=(Cr.own_in ho2 e).1;dsimp only;omega)))
 have N1:=hid (fun b (e:(Value.slice x1 r.vars.length y1).ownBlock=some b)=>(Cr.own_in O1.out e).2)
 have H3:=hid (implOwnNumbers 0 r.dues _ w4 (by have:=HS.out.dues;omega) (HA.out.below hb4).dues)
 have k4':w3.cell? ⟨w.heap.size,4,none⟩=some (.slice a3 r.dues.length k3):=Ch.blk_cell K3 4
 have z3:w.heap.size<w3.heap.size:=by omega
 have z4:w.heap.size<w4.heap.size:=by omega
 have HB4:=hid hb4
 clear hb3 ho2 hb4 O1
 go_wp2_with fail
 rw [←e4]
 clear e4 k3' k3'' f3
 refine H3.out.mono ?_
 rintro e w5 ⟨⟨u3,rfl,ho3⟩,hb5⟩
 obtain ⟨x3,y3,rfl⟩:=Ints.owns_slice ho3
 have l5:=hb5.size
 have K5:=bk K4 hb5
 have Q5:=bk Q4 hb5
 have c0:w5.cell? ⟨w.heap.size,0,none⟩=some (.int .i64 r.status):=Ch.blk_cell K5 0
 have c1:w5.cell? ⟨w.heap.size,1,none⟩=some (.int .i64 r.now):=Ch.blk_cell K5 1
 have c2:w5.cell? ⟨w.heap.size,2,none⟩=some (.slice x1 r.vars.length y1):=Ch.blk_cell K5 2
 have c3:w5.cell? ⟨w.heap.size,3,none⟩=some (.slice x2 r.marks.length y2):=Ch.blk_cell K5 3
 have c4:w5.cell? ⟨w.heap.size,4,none⟩=some (.slice a3 r.dues.length k3):=Ch.blk_cell K5 4
 have f4:=Ch.blk_free K5 4
 have q0:w5.cell? ⟨w.heap.size+1,0,none⟩=some (.int .i64 0):=Ch.blk_cell Q5 0
 have q1:w5.cell? ⟨w.heap.size+1,1,none⟩=some (.int .i64 0):=Ch.blk_cell Q5 1
 have q2:w5.cell? ⟨w.heap.size+1,2,none⟩=some (.slice none 0 0):=Ch.blk_cell Q5 2
 have q3:w5.cell? ⟨w.heap.size+1,3,none⟩=some (.slice none 0 0):=Ch.blk_cell Q5 3
 have q4:w5.cell? ⟨w.heap.size+1,4,none⟩=some (.slice none 0 0):=Ch.blk_cell Q5 4
 have g0:=Ch.blk_free Q5 0
 have g1:=Ch.blk_free Q5 1
 have g2:=Ch.blk_free Q5 2
 have g3:=Ch.blk_free Q5 3
 have g4:=Ch.blk_free Q5 4
 have z5:w.heap.size<w5.heap.size:=by omega
 have z6:w.heap.size+1<w5.heap.size:=by omega
 have HB5:=hid (HB4.out.trans (hb5.mono HB4.out.size))
 have P1:=hid (Ints.owns_below O14.out hb5)
 have P2:=hid (Ints.owns_below O2.out hb5)
 have P3:=hid ho3
 have N2:=hid (fun b (e:(Value.slice x2 r.marks.length y2).ownBlock=some b)=>(Cr.own_in O2.out e).2)
 have hkeep:Hid (∀wz,(∀b,w.heap.size+2≤b→wz.heap[b]?=w5.heap[b]?)→Cr.Own3 wz w.heap.size (.slice x1 r.vars.length y1) (.slice x2 r.marks.length y2) (.slice x3 r.dues.length y3) r):=hid (fun wz hk=>by
  have a1:=fun b (e:(Value.slice x1 r.vars.length y1).ownBlock=some b)=>(Cr.own_in P1.out e).1
  have a2:=fun b (e:(Value.slice x2 r.marks.length y2).ownBlock=some b)=>(Cr.own_in P2.out e).1
  have a3:=fun b (e:(Value.slice x3 r.dues.length y3).ownBlock=some b)=>(Cr.own_in P3.out e).1
  refine ⟨Cr.own_base (Cr.own_kept P1.out (fun b e=>hk b (by have:=a1 b e;omega))) (by omega),Cr.own_base (Cr.own_kept P2.out (fun b e=>hk b (by have:=a2 b e;omega))) (by omega),Cr.own_base (Cr.own_kept P3.out (fun b e=>hk b (by have:=a3 b e;omega))) (by omega),fun b e e2=>?_,fun b e e2=>?_,fun b e e2=>?_⟩
  ·have:=N1.out b e;have:=a2 b e2;omega
  ·have:=N1.out b e;have:=a3 b e2;omega
  ·have:=N2.out b e;have:=a3 b e2;omega)
 clear hb5 ho3 K0 K1 K2 K3 K4 K5 Q0 Q1 Q2 Q3 Q4 Q5 H1 H2 H3 k4'
 go_wp2
 refine bodyPost_ret (v:=.agg #[.int .i64 r.status,.int .i64 r.now,.slice x1 r.vars.length y1,.slice x2 r.marks.length y2,.slice x3 r.dues.length y3]) (by simp [results,Tryz.results135,go_sem,q0,q1,q2,q3,q4]) rfl ⟨⟨_,_,_,rfl,?_⟩,?_⟩
 ·exact hkeep.out _ (fun b hb=>by repeat rw [Below.heap_setCell _ _ _ _ (by dsimp only;omega)])
 ·exact (((((HB5.out.setCell (p:=⟨w.heap.size,4,none⟩) (Nat.le_refl _) _).setCell (p:=⟨w.heap.size+1,0,none⟩) (by dsimp only;omega) _).setCell (p:=⟨w.heap.size+1,1,none⟩) (by dsimp only;omega) _).setCell (p:=⟨w.heap.size+1,2,none⟩) (by dsimp only;omega) _).setCell (p:=⟨w.heap.size+1,3,none⟩) (by dsimp only;omega) _).setCell (p:=⟨w.heap.size+1,4,none⟩) (by dsimp only;omega) _
end Eo
end Go.Proofs.YtccklgopcjilcaaGreatDoor
