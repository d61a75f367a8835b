/- Laid together: EoA, MkT, NkA. -/
import Derived.Test.YtccklgopcjilcaaGreatDoorJCT36
import Derived.Test.YtccklgopcjilcaaGreatDoorJCT14
import Derived.Test.YtccklgopcjilcaaGreatDoorProg
import Derived.Lib.ItoaNum
import Derived.WalkKit
import Derived.Below
import Derived.Lib.SlBytesConst
import Derived.Test.YtccklgopcjilcaaGreatDoorJCT35
/- An engine that a function has made itself: two rows, and what hangs on them, each copy between two blocks of its own. -/
namespace Go.Proofs.YtccklgopcjilcaaGreatDoor
open Go.RowKit Go.Deep
set_option linter.unusedVariables false
namespace Eo
open Ex (hid)
open Nst (own flat own_lt own_kept own_mono)
open Go.Proofs.YtccklgopcjilcaaGreatDoor.So (SOwn SAt SJ subs)
open St (StepD)
open Ei (InstD)
open En (EngD)
structure PIn (w:World) (lo hi:Nat) (v:Value) (ss:List StepD) (C E:Nat→Value):Prop where
 at':SAt w lo v ss C E
 row:∀b,own v b→b<hi
 sub:∀j,j<ss.length→∀b,own (C j) b∨own (E j) b→b<hi
theorem PIn.of {w:World} {lo:Nat} {v:Value} {ss:List StepD} {C E:Nat→Value} (h:SAt w lo v ss C E):PIn w lo w.heap.size v ss C E:=
 ⟨h,fun b hb=>(own_lt h.row hb).2,fun j hj b hb=>by rcases hb with hb | hb;exact (own_lt (So.SAt.cond h hj) hb).2;exact (own_lt (So.SAt.expr h hj) hb).2⟩
theorem sub_v {ss:List StepD} {C E:Nat→Value} {i b:Nat} (h:own (subs ss C E i).v b):own (C (i / 2)) b∨own (E (i / 2)) b:=by
 by_cases e:i % 2=0
 ·simp only [subs,e,if_true] at h;exact .inl h
 ·simp only [subs,e,if_false] at h;exact .inr h
theorem PIn.kept {w w':World} {lo hi:Nat} {v:Value} {ss:List StepD} {C E:Nat→Value} (h:PIn w lo hi v ss C E) (hb:∀b,lo≤b→b<hi→b<w.heap.size→w'.heap[b]?=w.heap[b]?):PIn w' lo hi v ss C E:=
 ⟨h.at'.kept (fun b hv=>hb b (own_lt h.at'.row hv).1 (h.row b hv) (own_lt h.at'.row hv).2) (fun i hi b hs=>hb b (own_lt (h.at'.sub i hi) hs).1 (h.sub (i / 2) (by omega) b (sub_v hs)) (own_lt (h.at'.sub i hi) hs).2),h.row,h.sub⟩
theorem PIn.steps {w:World} {lo hi:Nat} {v:Value} {ss:List StepD} {C E:Nat→Value} (h:PIn w lo hi v ss C E):St.At w lo v ss:=So.SOwn.steps ⟨C,E,h.at'⟩
def IJ (is:List InstD) (j:Nat):InstD:=is[j]?.getD ⟨0,0,0,[],[],[]⟩
theorem IJ_eq {is:List InstD} {j:Nat} (h:j<is.length):IJ is j=is[j]:=by unfold IJ;rw [List.getElem?_eq_getElem h,Option.getD_some]
def PJs (ps:List (List StepD)) (j:Nat):List StepD:=ps[j]?.getD []
theorem PJs_eq {ps:List (List StepD)} {j:Nat} (h:j<ps.length):PJs ps j=ps[j]:=by unfold PJs;rw [List.getElem?_eq_getElem h,Option.getD_some]
def icell (i:InstD) (v1 v2 v3:Value):List Value:=[.int .i64 i.proc,.int .i64 i.chart.status,.int .i64 i.chart.now,v1,v2,v3]
structure PRow (w:World) (B:Nat) (v:Value) (ps:List (List StepD)) (pv:Nat→Value) (C E:Nat→Nat→Value) (lo hi:Nat→Nat):Prop where
 row:w.ownsRow B 89 1 v ps.length (flat (fun j=>[pv j]) ps.length)
 pin:∀j,j<ps.length→PIn w (lo j) (hi j) (pv j) (PJs ps j) (C j) (E j)
 base:∀j,j<ps.length→B≤lo j∧hi j≤w.heap.size
 sep:∀i j,i<ps.length→j<ps.length→i≠j→hi i≤lo j∨hi j≤lo i
 out:∀b,own v b→∀j,j<ps.length→b<lo j∨hi j≤b
structure IRow (w:World) (B:Nat) (v:Value) (is:List InstD) (u1 u2 u3:Nat→Value) (lo hi:Nat→Nat):Prop where
 row:w.ownsRow B 114 6 v is.length (flat (fun j=>icell (IJ is j) (u1 j) (u2 j) (u3 j)) is.length)
 iin:∀j,j<is.length→IIn w (lo j) (hi j) (u1 j) (u2 j) (u3 j) (IJ is j).chart
 base:∀j,j<is.length→B≤lo j∧hi j≤w.heap.size
 sep:∀i j,i<is.length→j<is.length→i≠j→hi i≤lo j∨hi j≤lo i
 out:∀b,own v b→∀j,j<is.length→b<lo j∨hi j≤b
theorem PRow.kept {w w':World} {B:Nat} {v:Value} {ps:List (List StepD)} {pv:Nat→Value} {C E:Nat→Nat→Value} {lo hi:Nat→Nat} (h:PRow w B v ps pv C E lo hi) (hs:w.heap.size≤w'.heap.size)
    (hb:∀b,own v b∨(∃j,j<ps.length∧lo j≤b∧b<hi j)→b<w.heap.size→w'.heap[b]?=w.heap[b]?):PRow w' B v ps pv C E lo hi:=
 ⟨own_kept h.row (fun b e=>hb b (.inl e) (own_lt h.row e).2),fun j hj=>(h.pin j hj).kept (fun b h1 h2 h3=>hb b (.inr ⟨j,hj,h1,h2⟩) h3),fun j hj=>⟨(h.base j hj).1,Nat.le_trans (h.base j hj).2 hs⟩,h.sep,h.out⟩
theorem IRow.kept {w w':World} {B:Nat} {v:Value} {is:List InstD} {u1 u2 u3:Nat→Value} {lo hi:Nat→Nat} (h:IRow w B v is u1 u2 u3 lo hi) (hs:w.heap.size≤w'.heap.size)
    (hb:∀b,own v b∨(∃j,j<is.length∧lo j≤b∧b<hi j)→b<w.heap.size→w'.heap[b]?=w.heap[b]?):IRow w' B v is u1 u2 u3 lo hi:=
 ⟨own_kept h.row (fun b e=>hb b (.inl e) (own_lt h.row e).2),fun j hj=>(h.iin j hj).kept (fun b h1 h2 h3=>hb b (.inr ⟨j,hj,h1,h2⟩) h3),fun j hj=>⟨(h.base j hj).1,Nat.le_trans (h.base j hj).2 hs⟩,h.sep,h.out⟩
theorem PRow.in {w:World} {B:Nat} {v:Value} {ps:List (List StepD)} {pv:Nat→Value} {C E:Nat→Nat→Value} {lo hi:Nat→Nat} (h:PRow w B v ps pv C E lo hi) {b:Nat}
    (hb:own v b∨(∃j,j<ps.length∧lo j≤b∧b<hi j)):B≤b∧b<w.heap.size:=by
 rcases hb with hb | ⟨j,hj,h1,h2⟩
 ·exact own_lt h.row hb
 ·have:=h.base j hj;omega
theorem IRow.in {w:World} {B:Nat} {v:Value} {is:List InstD} {u1 u2 u3:Nat→Value} {lo hi:Nat→Nat} (h:IRow w B v is u1 u2 u3 lo hi) {b:Nat}
    (hb:own v b∨(∃j,j<is.length∧lo j≤b∧b<hi j)):B≤b∧b<w.heap.size:=by
 rcases hb with hb | ⟨j,hj,h1,h2⟩
 ·exact own_lt h.row hb
 ·have:=h.base j hj;omega
theorem PRow.keep {w w':World} {B:Nat} {v:Value} {ps:List (List StepD)} {pv:Nat→Value} {C E:Nat→Nat→Value} {lo hi:Nat→Nat} (h:PRow w B v ps pv C E lo hi) (hs:w.heap.size≤w'.heap.size)
    (hb:∀b,B≤b→b<w.heap.size→w'.heap[b]?=w.heap[b]?):PRow w' B v ps pv C E lo hi:=h.kept hs (fun b h1 h2=>hb b (h.in h1).1 h2)
theorem IRow.keep {w w':World} {B:Nat} {v:Value} {is:List InstD} {u1 u2 u3:Nat→Value} {lo hi:Nat→Nat} (h:IRow w B v is u1 u2 u3 lo hi) (hs:w.heap.size≤w'.heap.size)
    (hb:∀b,B≤b→b<w.heap.size→w'.heap[b]?=w.heap[b]?):IRow w' B v is u1 u2 u3 lo hi:=h.kept hs (fun b h1 h2=>hb b (h.in h1).1 h2)
theorem PRow.below {w w':World} {B:Nat} {v:Value} {ps:List (List StepD)} {pv:Nat→Value} {C E:Nat→Nat→Value} {lo hi:Nat→Nat} (h:PRow w B v ps pv C E lo hi) (hb:Below w.heap.size w w'):PRow w' B v ps pv C E lo hi:=h.keep hb.size (fun b _ h2=>hb.block b h2)
theorem IRow.below {w w':World} {B:Nat} {v:Value} {is:List InstD} {u1 u2 u3:Nat→Value} {lo hi:Nat→Nat} (h:IRow w B v is u1 u2 u3 lo hi) (hb:Below w.heap.size w w'):IRow w' B v is u1 u2 u3 lo hi:=h.keep hb.size (fun b _ h2=>hb.block b h2)
theorem PRow.nil (w:World) (B:Nat):PRow w B (.slice none 0 0) [] (fun _=>.slice none 0 0) (fun _ _=>.slice none 0 0) (fun _ _=>.slice none 0 0) (fun _=>0) (fun _=>0):=
 ⟨World.ownsRow_nil w B _ _,fun j h=>by simp at h,fun j h=>by simp at h,fun i j h=>by simp at h,fun b h=>by cases h⟩
theorem IRow.nil (w:World) (B:Nat):IRow w B (.slice none 0 0) [] (fun _=>.slice none 0 0) (fun _=>.slice none 0 0) (fun _=>.slice none 0 0) (fun _=>0) (fun _=>0):=
 ⟨World.ownsRow_nil w B _ _,fun j h=>by simp at h,fun j h=>by simp at h,fun i j h=>by simp at h,fun b h=>by cases h⟩
theorem PRow.at' {w:World} {B:Nat} {v:Value} {ps:List (List StepD)} {pv:Nat→Value} {C E:Nat→Nat→Value} {lo hi:Nat→Nat} (h:PRow w B v ps pv C E lo hi):Ep.At w B v ps:=by
 rcases Nat.eq_zero_or_pos ps.length with h0 | h0
 ·obtain ⟨a,cap,rfl⟩:=Nst.own_slice h.row
  have e:ps=[]:=List.eq_nil_of_length_eq_zero h0
  subst e
  rcases h.row.2 with ⟨e1,_⟩ | ⟨g,c2,cur,e1,_,_,_,hm,_⟩
  ·cases e1;exact Ep.At.nil w B
  ·cases e1;exact ⟨_,_,rfl,Nat.zero_le _,hm,.inl rfl⟩
 ·obtain ⟨g,cap,rfl,hB,hg,hc,hm⟩:=Nst.own_some h.row h0
  refine ⟨_,_,rfl,hc,hm,.inr ⟨g,0,rfl,hB,hg,fun i hi=>⟨pv i,?_,?_⟩⟩⟩
  ·have h1:=h.row.cellAt (i*1) (by omega)
   have h2:=Nst.flat_get (f:=fun j=>[pv j]) (z:=1) (n:=ps.length) (j:=i) (c:=0) (fun _ _=>rfl) hi (by omega)
   rw [Nat.mul_one] at h1
   rw [Nat.mul_one,Nat.add_zero] at h2
   rw [Nat.zero_add,h1,h2]
   rfl
  ·have:=(h.pin i hi).steps
   rw [PJs_eq hi] at this
   exact this.mono (h.base i hi).1
theorem IRow.at' {w:World} {B:Nat} {v:Value} {is:List InstD} {u1 u2 u3:Nat→Value} {lo hi:Nat→Nat} (h:IRow w B v is u1 u2 u3 lo hi):Ei.At w B v is:=by
 rcases Nat.eq_zero_or_pos is.length with h0 | h0
 ·obtain ⟨a,cap,rfl⟩:=Nst.own_slice h.row
  have e:is=[]:=List.eq_nil_of_length_eq_zero h0
  subst e
  rcases h.row.2 with ⟨e1,_⟩ | ⟨g,c2,cur,e1,_,_,_,hm,_⟩
  ·cases e1;exact Ei.At.nil w B
  ·cases e1;exact ⟨_,_,rfl,Nat.zero_le _,hm,.inl rfl⟩
 ·obtain ⟨g,cap,rfl,hB,hg,hc,hm⟩:=Nst.own_some h.row h0
  refine ⟨_,_,rfl,hc,hm,.inr ⟨g,0,rfl,hB,hg,fun i hi=>⟨u1 i,u2 i,u3 i,?_⟩⟩⟩
  have key:∀c,c<6→w.cell? ⟨g,i*6+c,none⟩=(icell is[i] (u1 i) (u2 i) (u3 i))[c]?:=fun c hc=>by
   have h2:=Nst.flat_get (f:=fun j=>icell (IJ is j) (u1 j) (u2 j) (u3 j)) (z:=6) (n:=is.length) (j:=i) (c:=c) (fun _ _=>rfl) hi hc
   rw [h.row.cellAt (i*6+c) (by omega),h2,IJ_eq hi]
  have hin:=(h.iin i hi).own.at'
  rw [IJ_eq hi] at hin
  rw [Nat.zero_add]
  exact ⟨key 0 (by omega),key 1 (by omega),key 2 (by omega),key 3 (by omega),key 4 (by omega),key 5 (by omega),hin.mono (h.base i hi).1⟩
theorem PJs_left {ps:List (List StepD)} {x:List StepD} {j:Nat} (h:j<ps.length):PJs (ps++[x]) j=PJs ps j:=by unfold PJs;rw [List.getElem?_append_left h]
theorem PJs_last (ps:List (List StepD)) (x:List StepD):PJs (ps++[x]) ps.length=x:=by unfold PJs;simp
theorem IJ_left {is:List InstD} {x:InstD} {j:Nat} (h:j<is.length):IJ (is++[x]) j=IJ is j:=by unfold IJ;rw [List.getElem?_append_left h]
theorem IJ_last (is:List InstD) (x:InstD):IJ (is++[x]) is.length=x:=by unfold IJ;simp
def upd {α:Type} (f:Nat→α) (n:Nat) (x:α):Nat→α:=fun i=>if i=n then x else f i
theorem upd_at {α:Type} (f:Nat→α) (n:Nat) (x:α):upd f n x n=x:=if_pos rfl
theorem upd_ne {α:Type} (f:Nat→α) {n i:Nat} (x:α) (h:i≠n):upd f n x i=f i:=if_neg h
theorem PRow.push {w0 w w2:World} {B l:Nat} {v v' pn:Value} {ps:List (List StepD)} {x:List StepD} {pv:Nat→Value} {C E:Nat→Nat→Value} {lo hi:Nat→Nat} {c e:Nat→Value}
    (h:PRow w0 B v ps pv C E lo hi) (hB:B≤w0.heap.size) (hb:Below w0.heap.size w0 w) (hl:w0.heap.size≤l) (hx:PIn w l w.heap.size pn x c e)
    (hown:w2.ownsRow B 89 1 v' (ps.length+1) (flat (fun j=>[pv j]) ps.length++[pn])) (hg:w.grownBy w2 v.ownBlock) (hat:v'.ownBlock=v.ownBlock∨∃m,v'.ownBlock=some m∧w.heap.size≤m):
    PRow w2 B v' (ps++[x]) (upd pv ps.length pn) (upd C ps.length c) (upd E ps.length e) (upd lo ps.length l) (upd hi ps.length w.heap.size):=by
 have hlen:(ps++[x]).length=ps.length+1:=by simp
 have h1:=h.below hb
 have hsz:=hb.size
 have hv:∀b,own v' b→own v b∨w.heap.size≤b:=fun b e=>by
  rcases hat with h2 | ⟨m,h2,h3⟩
  ·exact .inl (by unfold own;rw [←h2];exact e)
  ·right;unfold own at e;rw [h2] at e;cases e;exact h3
 have keep:∀b,(∀k,v.ownBlock=some k→b≠k)→b<w.heap.size→w2.heap[b]?=w.heap[b]?:=fun b hk hb=>hg.block b hb (fun e=>hk b e.symm rfl)
 refine ⟨?_,fun j hj=>?_,fun j hj=>?_,fun i j hi hj hij=>?_,fun b hb' j hj=>?_⟩
 ·rw [hlen,Nst.flat_succ]
  have:flat (fun j=>[upd pv ps.length pn j]) ps.length=flat (fun j=>[pv j]) ps.length:=Nst.flat_congr (fun j hj=>by rw [upd_ne _ _ (by omega)])
  rw [this]
  rw [upd_at]
  exact hown
 ·rw [hlen] at hj
  by_cases e1:j=ps.length
  ·subst e1
   rw [upd_at,upd_at,upd_at,upd_at,upd_at,PJs_last]
   exact hx.kept (fun b hb1 hb2 hb3=>keep b (fun k hk e=>by have:=(own_lt h.row hk).2;omega) hb3)
  ·rw [upd_ne _ _ e1,upd_ne _ _ e1,upd_ne _ _ e1,upd_ne _ _ e1,upd_ne _ _ e1,PJs_left (by omega)]
   exact (h1.pin j (by omega)).kept (fun b hb1 hb2 hb3=>keep b (fun k hk e=>by have:=h.out k hk j (by omega);omega) hb3)
 ·rw [hlen] at hj
  have:=hg.size
  by_cases e1:j=ps.length
  ·subst e1;rw [upd_at,upd_at];omega
  ·rw [upd_ne _ _ e1,upd_ne _ _ e1];have:=h.base j (by omega);omega
 ·rw [hlen] at hi hj
  by_cases e1:i=ps.length
  ·subst e1
   rw [upd_at,upd_at,upd_ne _ _ (Ne.symm hij),upd_ne _ _ (Ne.symm hij)]
   have:=h.base j (by omega);omega
  ·by_cases e2:j=ps.length
   ·subst e2;rw [upd_at,upd_at,upd_ne _ _ e1,upd_ne _ _ e1];have:=h.base i (by omega);omega
   ·rw [upd_ne _ _ e1,upd_ne _ _ e1,upd_ne _ _ e2,upd_ne _ _ e2];exact h.sep i j (by omega) (by omega) hij
 ·rw [hlen] at hj
  by_cases e1:j=ps.length
  ·subst e1;rw [upd_at,upd_at]
   rcases hv b hb' with h2 | h2
   ·have:=(own_lt h.row h2).2;omega
   ·omega
  ·rw [upd_ne _ _ e1,upd_ne _ _ e1]
   rcases hv b hb' with h2 | h2
   ·exact h.out b h2 j (by omega)
   ·have:=(h1.base j (by omega)).2;omega
theorem IRow.push {w0 w w2:World} {B l:Nat} {v v' n1 n2 n3:Value} {is:List InstD} {x:InstD} {u1 u2 u3:Nat→Value} {lo hi:Nat→Nat}
    (h:IRow w0 B v is u1 u2 u3 lo hi) (hB:B≤w0.heap.size) (hb:Below w0.heap.size w0 w) (hl:w0.heap.size≤l) (hx:IIn w l w.heap.size n1 n2 n3 x.chart)
    (hown:w2.ownsRow B 114 6 v' (is.length+1) (flat (fun j=>icell (IJ is j) (u1 j) (u2 j) (u3 j)) is.length++icell x n1 n2 n3)) (hg:w.grownBy w2 v.ownBlock) (hat:v'.ownBlock=v.ownBlock∨∃m,v'.ownBlock=some m∧w.heap.size≤m):
    IRow w2 B v' (is++[x]) (upd u1 is.length n1) (upd u2 is.length n2) (upd u3 is.length n3) (upd lo is.length l) (upd hi is.length w.heap.size):=by
 have hlen:(is++[x]).length=is.length+1:=by simp
 have h1:=h.below hb
 have hsz:=hb.size
 have hv:∀b,own v' b→own v b∨w.heap.size≤b:=fun b e=>by
  rcases hat with h2 | ⟨m,h2,h3⟩
  ·exact .inl (by unfold own;rw [←h2];exact e)
  ·right;unfold own at e;rw [h2] at e;cases e;exact h3
 have keep:∀b,(∀k,v.ownBlock=some k→b≠k)→b<w.heap.size→w2.heap[b]?=w.heap[b]?:=fun b hk hb=>hg.block b hb (fun e=>hk b e.symm rfl)
 refine ⟨?_,fun j hj=>?_,fun j hj=>?_,fun i j hi hj hij=>?_,fun b hb' j hj=>?_⟩
 ·rw [hlen,Nst.flat_succ]
  have:flat (fun j=>icell (IJ (is++[x]) j) (upd u1 is.length n1 j) (upd u2 is.length n2 j) (upd u3 is.length n3 j)) is.length=flat (fun j=>icell (IJ is j) (u1 j) (u2 j) (u3 j)) is.length:=Nst.flat_congr (fun j hj=>by rw [upd_ne _ _ (by omega),upd_ne _ _ (by omega),upd_ne _ _ (by omega),IJ_left hj])
  rw [this]
  rw [upd_at,upd_at,upd_at,IJ_last]
  exact hown
 ·rw [hlen] at hj
  by_cases e1:j=is.length
  ·subst e1
   rw [upd_at,upd_at,upd_at,upd_at,upd_at,IJ_last]
   exact hx.kept (fun b hb1 hb2 hb3=>keep b (fun k hk e=>by have:=(own_lt h.row hk).2;omega) hb3)
  ·rw [upd_ne _ _ e1,upd_ne _ _ e1,upd_ne _ _ e1,upd_ne _ _ e1,upd_ne _ _ e1,IJ_left (by omega)]
   exact (h1.iin j (by omega)).kept (fun b hb1 hb2 hb3=>keep b (fun k hk e=>by have:=h.out k hk j (by omega);omega) hb3)
 ·rw [hlen] at hj
  have:=hg.size
  by_cases e1:j=is.length
  ·subst e1;rw [upd_at,upd_at];omega
  ·rw [upd_ne _ _ e1,upd_ne _ _ e1];have:=h.base j (by omega);omega
 ·rw [hlen] at hi hj
  by_cases e1:i=is.length
  ·subst e1
   rw [upd_at,upd_at,upd_ne _ _ (Ne.symm hij),upd_ne _ _ (Ne.symm hij)]
   have:=h.base j (by omega);omega
  ·by_cases e2:j=is.length
   ·subst e2;rw [upd_at,upd_at,upd_ne _ _ e1,upd_ne _ _ e1];have:=h.base i (by omega);omega
   ·rw [upd_ne _ _ e1,upd_ne _ _ e1,upd_ne _ _ e2,upd_ne _ _ e2];exact h.sep i j (by omega) (by omega) hij
 ·rw [hlen] at hj
  by_cases e1:j=is.length
  ·subst e1;rw [upd_at,upd_at]
   rcases hv b hb' with h2 | h2
   ·have:=(own_lt h.row h2).2;omega
   ·omega
  ·rw [upd_ne _ _ e1,upd_ne _ _ e1]
   rcases hv b hb' with h2 | h2
   ·exact h.out b h2 j (by omega)
   ·have:=(h1.base j (by omega)).2;omega
def POwn (w:World) (B:Nat) (v:Value) (ps:List (List StepD)):Prop:=∃pv C E lo hi,PRow w B v ps pv C E lo hi
def IOwn (w:World) (B:Nat) (v:Value) (is:List InstD):Prop:=∃u1 u2 u3 lo hi,IRow w B v is u1 u2 u3 lo hi
def EOwn (w:World) (B:Nat) (vp vi:Value) (e:EngD):Prop:=∃pv C E pl ph u1 u2 u3 il ih,PRow w B vp e.procs pv C E pl ph∧IRow w B vi e.insts u1 u2 u3 il ih∧
 ∀b,own vp b∨(∃j,j<e.procs.length∧pl j≤b∧b<ph j)→¬(own vi b∨(∃j,j<e.insts.length∧il j≤b∧b<ih j))
theorem EOwn.at' {w:World} {B:Nat} {vp vi:Value} {e:EngD} (h:EOwn w B vp vi e):En.At w B vp vi e:=by
 obtain ⟨_,_,_,_,_,_,_,_,_,_,h1,h2,_⟩:=h;exact ⟨h1.at',h2.at'⟩
theorem EOwn.keep {w w':World} {B:Nat} {vp vi:Value} {e:EngD} (h:EOwn w B vp vi e) (hs:w.heap.size≤w'.heap.size) (hb:∀b,B≤b→b<w.heap.size→w'.heap[b]?=w.heap[b]?):EOwn w' B vp vi e:=by
 obtain ⟨pv,C,E,pl,ph,u1,u2,u3,il,ih,h1,h2,h3⟩:=h;exact ⟨pv,C,E,pl,ph,u1,u2,u3,il,ih,h1.keep hs hb,h2.keep hs hb,h3⟩
theorem EOwn.below {w w':World} {B:Nat} {vp vi:Value} {e:EngD} (h:EOwn w B vp vi e) (hb:Below w.heap.size w w'):EOwn w' B vp vi e:=h.keep hb.size (fun b _ hl=>hb.block b hl)
theorem PRow.mono {w:World} {B B':Nat} {v:Value} {ps:List (List StepD)} {pv:Nat→Value} {C E:Nat→Nat→Value} {lo hi:Nat→Nat} (h:PRow w B v ps pv C E lo hi) (hb:B'≤B):PRow w B' v ps pv C E lo hi:=⟨own_mono h.row hb,h.pin,fun j hj=>⟨Nat.le_trans hb (h.base j hj).1,(h.base j hj).2⟩,h.sep,h.out⟩
theorem IRow.mono {w:World} {B B':Nat} {v:Value} {is:List InstD} {u1 u2 u3:Nat→Value} {lo hi:Nat→Nat} (h:IRow w B v is u1 u2 u3 lo hi) (hb:B'≤B):IRow w B' v is u1 u2 u3 lo hi:=⟨own_mono h.row hb,h.iin,fun j hj=>⟨Nat.le_trans hb (h.base j hj).1,(h.base j hj).2⟩,h.sep,h.out⟩
theorem EOwn.mono {w:World} {B B':Nat} {vp vi:Value} {e:EngD} (h:EOwn w B vp vi e) (hb:B'≤B):EOwn w B' vp vi e:=by
 obtain ⟨pv,C,E,pl,ph,u1,u2,u3,il,ih,h1,h2,h3⟩:=h;exact ⟨pv,C,E,pl,ph,u1,u2,u3,il,ih,h1.mono hb,h2.mono hb,h3⟩
end Eo
end Go.Proofs.YtccklgopcjilcaaGreatDoor
/- The text of a mark, as the law lays it. -/
namespace Go.Proofs.YtccklgopcjilcaaGreatDoor
open Go.RowKit
set_option linter.unusedVariables false
namespace Mk
open Go.Lib (decDigits decDigits_one)
theorem hid {p:Prop} (h:p):Hid p:=h
theorem dec_big {n:Nat} (h:¬n<10):decDigits n=decDigits (n / 10)++[UInt8.ofNat (48+n % 10)]:=by rw [decDigits,dif_neg h]
def mt (k:Nat):ByteArray:=⟨(109 :: decDigits k).toArray⟩
def dg (k:Nat):UInt8:=UInt8.ofNat (48+k % 10)
theorem dg_nat (j:Nat):((dg j).toNat:Int)=48+(j:Int) % 10:=by
 unfold dg
 have h:(48+j % 10)<256:=by omega
 rw [UInt8.toNat_ofNat',Nat.mod_eq_of_lt h]
 push_cast
 rfl
theorem conv1 (j:Nat) (w:World):Sem.run Tryz.prog (convert 31 9 (.slice (some ⟨w.heap.size,0,none⟩) 1 1)) (w.alloc (.cells #[.int .u8 (48+(j:Int) % 10)] 5))=.ok (.string ⟨[dg j].toArray⟩) (w.alloc (.cells #[.int .u8 (48+(j:Int) % 10)] 5)):=by
 refine run_convert_bytes_back (P:=Tryz.prog) _ 31 9 5 ⟨w.heap.size,0,none⟩ 1 [dg j] Tryz.underlying31 Tryz.underlying5 Tryz.underlying9 ?_
 intro i hi
 obtain rfl:i=0:=by simpa using hi
 simp [Addr.add,dg_nat]
theorem app_one (c:UInt8) (l:List UInt8):Value.string (ByteArray.mk [c].toArray++ByteArray.mk l.toArray)=.string ⟨(c :: l).toArray⟩:=by
 apply congrArg Value.string;apply ByteArray.ext;simp
theorem next {K j:Nat} {l:List UInt8} (hj:0<j) (h:decDigits j++l=decDigits K):(j / 10=0∧dg j :: l=decDigits K)∨(0<j / 10∧decDigits (j / 10)++dg j :: l=decDigits K):=by
 by_cases h10:j<10
 ·left
  refine ⟨by omega,?_⟩
  rw [←h,decDigits_one h10]
  unfold dg
  rw [Nat.mod_eq_of_lt h10]
  rfl
 ·right
  refine ⟨by omega,?_⟩
  rw [←h,dec_big h10,List.append_assoc]
  rfl
set_option maxRecDepth 100000 in
set_option maxHeartbeats 2000000 in
theorem markText (k:Nat) (w:World) (h0:0<k) (hk:k≤35184372088832):Calls Tryz.prog 101 #[.int .i64 k] w fun e w'=>e=.returned (.string (mt k))∧Below w.heap.size w w':=by
 have q0:(0:Int)<(k:Int):=by omega
 have q00:k≠0:=by omega
 go_enter Tryz.func101,Tryz.ntmps101
 go_wp2
 go_loopw [0,3] (fun i o wr=>∃(j:Nat) (l:List UInt8),i=.int .i64 j∧o=.string ⟨l.toArray⟩∧l.length+j≤k∧Hid ((j=0∧l=decDigits k)∨(0<j∧decDigits j++l=decDigits k))∧Below w.heap.size w wr) (fun i _ _=>(intOf i).toNat)
 case atStart=>exact ⟨k,[],rfl,rfl,by simp,hid (.inr ⟨h0,by rw [List.append_nil]⟩),Below.refl _ _⟩
 case round=>
  obtain ⟨j,l,rfl,rfl,hl,HD,hbel⟩:=hrel
  by_cases hj:0<j
  ·have q1:(0:Int)<(j:Int):=by omega
   have HN:Hid ((j / 10=0∧dg j :: l=decDigits k)∨(0<j / 10∧decDigits (j / 10)++dg j :: l=decDigits k)):=hid (by
    rcases HD.out with ⟨h,_⟩ | ⟨_,h⟩
    ·omega
    ·exact next hj h)
   go_wp2
   rw [conv1]
   simp only [Result.andThen]
   rw [Oper.upon_value]
   go_wp2
   exact ⟨⟨j / 10,dg j :: l,by simp,app_one _ _,by simp only [List.length_cons];omega,HN,hbel.alloc hbel.size _⟩,by simp [intOf];omega⟩
  ·have q1:¬(0:Int)<(j:Int):=by omega
   have HL:Hid (l=decDigits k):=hid (by
    rcases HD.out with ⟨_,h⟩ | ⟨h,_⟩
    ·exact h
    ·omega)
   go_wp2
   go_ret
   refine ⟨?_,hbel⟩
   unfold mt
   rw [←HL.out]
   exact congrArg Ending.returned (app_one 109 l)
theorem markText' (k:Int) (w:World) (h0:0<k) (hk:k≤35184372088832):Calls Tryz.prog 101 #[.int .i64 k] w fun e w'=>e=.returned (.string (mt k.toNat))∧Below w.heap.size w w':=by
 have h:=markText k.toNat w (by omega) (by omega)
 rw [show ((k.toNat:Nat):Int)=k by omega] at h
 exact h
end Mk
end Go.Proofs.YtccklgopcjilcaaGreatDoor
/- The law's marks in rows of nodes that a function has made itself, and whether they hold. -/
namespace Go.Proofs.YtccklgopcjilcaaGreatDoor
open Go.RowKit
set_option linter.unusedVariables false
namespace Nk
open Ex (hid nval nvals nvals_len nvals_snoc nvals_get)
open Nd (NodeD)
open Nst (own)
open Mk (mt markText markText')
structure Amid (w w':World) (B C:Nat):Prop where
 os:w'.os=w.os
 tape:w'.tape=w.tape
 output:w'.output=w.output
 size:w.heap.size≤w'.heap.size
 block:∀b,b<w.heap.size→b<B∨C≤b→w'.heap[b]?=w.heap[b]?
theorem Amid.refl (w:World) (B C:Nat):Amid w w B C:=⟨rfl,rfl,rfl,Nat.le_refl _,fun _ _ _=>rfl⟩
theorem Amid.trans {w w1 w2:World} {B C:Nat} (h:Amid w w1 B C) (h2:Amid w1 w2 B C):Amid w w2 B C:=
 ⟨h2.os.trans h.os,h2.tape.trans h.tape,h2.output.trans h.output,Nat.le_trans h.size h2.size,fun b hb ho=>(h2.block b (Nat.lt_of_lt_of_le hb h.size) ho).trans (h.block b hb ho)⟩
theorem Amid.of_below {w w':World} {B C:Nat} (h:Below w.heap.size w w'):Amid w w' B C:=⟨h.os,h.tape,h.output,h.size,fun b hb _=>h.block b hb⟩
theorem Amid.set (w:World) {B C g:Nat} (c:Nat) (u:Value) (h1:B≤g) (h2:g<C):Amid w (w.setCell ⟨g,c,none⟩ u) B C:=
 ⟨rfl,rfl,rfl,by simp [World.setCell],fun b hb ho=>Below.heap_setCell _ _ _ _ (by dsimp only;omega)⟩
theorem Amid.mono {w w':World} {B B' C C':Nat} (h:Amid w w' B C) (h1:B'≤B) (h2:C≤C'):Amid w w' B' C':=⟨h.os,h.tape,h.output,h.size,fun b hb ho=>h.block b hb (by omega)⟩
theorem amid_grown {w w':World} {row:Option Nat} {B C:Nat} (h:w.grownBy w' row) (hr:∀b,row=some b→B≤b∧b<C):Amid w w' B C:=
 ⟨h.os,h.tape,h.output,h.size,fun b hb ho=>h.block b hb (fun e=>by have:=hr b e.symm;omega)⟩
theorem grown_trans {w w1 w2:World} {row:Option Nat} (h:w.grownBy w1 row) (h2:w1.grownBy w2 row):w.grownBy w2 row:=
 ⟨h2.os.trans h.os,h2.tape.trans h.tape,h2.output.trans h.output,Nat.le_trans h.size h2.size,fun k hk hr=>(h2.block k (Nat.lt_of_lt_of_le hk h.size) hr).trans (h.block k hk hr)⟩
theorem grown_below {w w1:World} {row:Option Nat} (h:Below w.heap.size w w1):w.grownBy w1 row:=⟨h.os,h.tape,h.output,h.size,fun k hk _=>h.block k hk⟩
theorem grown_set (w:World) (g i:Nat) (u:Value):w.grownBy (w.setCell ⟨g,i,none⟩ u) (some g):=
 ⟨rfl,rfl,rfl,by simp [World.setCell],fun k hk hr=>Below.heap_setCell _ _ _ _ (fun e=>hr (by rw [e]))⟩
theorem kept_cell {B:Nat} {W w:World} (h:Below B W w) {b o:Nat} (hb:b<B) {v:Value} (hc:W.cell? ⟨b,o,none⟩=some v):w.cell? ⟨b,o,none⟩=some v:=(h.cell (p:=⟨b,o,none⟩) hb).trans hc
theorem kept_free {B:Nat} {W w:World} (h:Below B W w) {b o:Nat} (hb:b<B) (hc:W.frozen? ⟨b,o,none⟩=false):w.frozen? ⟨b,o,none⟩=false:=(h.frozen (p:=⟨b,o,none⟩) hb).trans hc
def NJ (l:List NodeD) (i:Nat):NodeD:=l[i]?.getD ⟨0,0,0,0⟩
theorem NJ_eq {l:List NodeD} {i:Nat} (h:i<l.length):NJ l i=l[i]:=by unfold NJ;rw [List.getElem?_eq_getElem h,Option.getD_some]
theorem nvals_flat:∀(l:List NodeD),Nst.flat (fun i=>nval (NJ l i)) l.length=nvals l:=by
 intro l
 have h:∀n,n≤l.length→Nst.flat (fun i=>nval (NJ l i)) n=nvals (l.take n):=by
  intro n
  induction n with
  | zero=>intro _;rfl
  | succ n ih=>
   intro hn
   rw [Nst.flat_succ,ih (by omega),NJ_eq (by omega),←List.take_append_getElem (by omega),nvals_snoc]
 rw [h l.length (Nat.le_refl _),List.take_length]
def mn (k i:Nat):NodeD:=⟨((k+4*i:Nat):Int),((k+4*i+1:Nat):Int),((k+4*i+2:Nat):Int),((k+4*i+3:Nat):Int)⟩
def mkN (k m:Nat):List NodeD:=(List.range m).map (mn k)
theorem mkN_len (k m:Nat):(mkN k m).length=m:=by simp [mkN]
theorem mkN_get (k m i:Nat) (h:i<(mkN k m).length):(mkN k m)[i]=mn k i:=by simp [mkN]
theorem mkN_J {k m i:Nat} (h:i<m):NJ (mkN k m) i=mn k i:=by
 rw [NJ_eq (by rw [mkN_len];exact h),mkN_get]
abbrev Z0:Nat→Nst.Sub:=fun _=>⟨0,0,.slice none 0 0,0,[]⟩
abbrev mcell (k:Nat) (c:Nat→List Value) (j:Nat):Nat→List Value:=fun x=>if x<j then nval (mn k x) else c x
set_option maxRecDepth 100000 in
set_option maxHeartbeats 4000000 in
theorem markNodes (B g cap n k:Nat) (c:Nat→List Value) (w:World) (hn:n≤1048576) (hk:k≤1000000000000000) (hc:∀j,j<n→(c j).length=4) (h:Nst.At w B 210 4 (.slice (some ⟨g,0,none⟩) n cap) n c 0 Z0):
    Calls Tryz.prog 102 #[.slice (some ⟨g,0,none⟩) n cap,.int .i64 (k:Int)] w fun e w'=>e=.returned (.int .i64 ((k+4*n:Nat):Int))∧Nst.At w' B 210 4 (.slice (some ⟨g,0,none⟩) n cap) n (mcell k c n) 0 Z0∧w.grownBy w' (some g):=by
 have H0:Hid (Nst.At w B 210 4 (.slice (some ⟨g,0,none⟩) n cap) n (mcell k c 0) 0 Z0):=hid (h.congr (fun j hj=>by simp [mcell]) (fun i hi=>rfl))
 have HC:=hid hc
 clear h hc
 go_enter Tryz.func102,Tryz.ntmps102
 go_wp2
 go_loopw [1,5] (fun q i wr=>∃(j:Nat),i=.int .i64 j∧q=.int .i64 ((k+4*j:Nat):Int)∧j≤n∧Hid (Nst.At wr B 210 4 (.slice (some ⟨g,0,none⟩) n cap) n (mcell k c j) 0 Z0)∧Hid (w.grownBy wr (some g))) (fun _ i _=>n - (intOf i).toNat)
 case atStart=>exact ⟨0,rfl,by simp,Nat.zero_le _,H0,hid (grown_below (Below.refl _ _))⟩
 case round=>
  obtain ⟨j,rfl,rfl,hj,HW,HG⟩:=hrel
  by_cases hlt:j<n
  ·have q1:(j:Int)<(n:Int):=by omega
   have hml:∀x,x<n→(mcell k c j x).length=4:=fun x hx=>by unfold mcell;split;rfl;exact HC.out x hx
   obtain ⟨p0,p1,p2,p3,hp⟩:∃p0 p1 p2 p3,mcell k c j j=[p0,p1,p2,p3]:=by
    match hm:mcell k c j j,hml j hlt with
    | [a,b,d,e],_=>exact ⟨a,b,d,e,rfl⟩
   have hr:=HW.out
   have c0:=hr.cell hml hlt (i:=0) (by omega)
   have c1:=hr.cell hml hlt (i:=1) (by omega)
   have c2:=hr.cell hml hlt (i:=2) (by omega)
   have c3:=hr.cell hml hlt (i:=3) (by omega)
   rw [hp] at c0 c1 c2 c3
   replace c0:wr.cell? ⟨g,j*4,none⟩=some p0:=c0
   replace c1:wr.cell? ⟨g,j*4+1,none⟩=some p1:=c1
   replace c2:wr.cell? ⟨g,j*4+2,none⟩=some p2:=c2
   replace c3:wr.cell? ⟨g,j*4+3,none⟩=some p3:=c3
   have z0:=hr.free (j*4)
   have z1:=hr.free (j*4+1)
   have z2:=hr.free (j*4+2)
   have z3:=hr.free (j*4+3)
   have hgl:=(Nst.own_lt hr.row (b:=g) rfl).2
   have step:∀ {wx:World} {L:List Value} (i:Nat) (u:Value),Nst.At wx B 210 4 (.slice (some ⟨g,0,none⟩) n cap) n (fun x=>if x=j then L else mcell k c j x) 0 Z0→L.length=4→i<4→Nst.At (wx.setCell ⟨g,j*4+i,none⟩ u) B 210 4 (.slice (some ⟨g,0,none⟩) n cap) n (fun x=>if x=j then L.set i u else mcell k c j x) 0 Z0:=fun {wx L} i u ha hL hi=>by
    have:=ha.setRow (fun x hx=>by by_cases e:x=j <;> simp only [e,if_true,if_false];exact hL;exact hml x hx) hlt hi u
    refine this.congr (fun x hx=>?_) (fun _ _=>rfl)
    by_cases e:x=j <;> simp only [e,if_true,if_false]
   have s0:Nst.At wr B 210 4 (.slice (some ⟨g,0,none⟩) n cap) n (fun x=>if x=j then [p0,p1,p2,p3] else mcell k c j x) 0 Z0:=hr.congr (fun x hx=>by
    by_cases e:x=j
    ·subst e;rw [if_pos rfl];exact hp.symm
    ·rw [if_neg e]) (fun _ _=>rfl)
   have s1:=step 0 (.int .i64 ((k:Int)+4*(j:Int))) s0 rfl (by omega)
   have s2:=step 1 (.int .i64 ((k:Int)+4*(j:Int)+1)) s1 rfl (by omega)
   have s3:=step 2 (.int .i64 ((k:Int)+4*(j:Int)+1+1)) s2 rfl (by omega)
   have s4:=step 3 (.int .i64 ((k:Int)+4*(j:Int)+1+1+1)) s3 rfl (by omega)
   have HR4:Hid (Nst.At ((((wr.setCell ⟨g,j*4,none⟩ (.int .i64 ((k:Int)+4*(j:Int)))).setCell ⟨g,j*4+1,none⟩ (.int .i64 ((k:Int)+4*(j:Int)+1))).setCell ⟨g,j*4+2,none⟩ (.int .i64 ((k:Int)+4*(j:Int)+1+1))).setCell ⟨g,j*4+3,none⟩ (.int .i64 ((k:Int)+4*(j:Int)+1+1+1))) B 210 4 (.slice (some ⟨g,0,none⟩) n cap) n (mcell k c (j+1)) 0 Z0):=hid (s4.congr (fun x hx=>by
    by_cases e:x=j
    ·subst e
     simp only [mcell,Nat.lt_succ_self,if_true,nval,mn,List.set_cons_zero,List.set_cons_succ]
     push_cast
     simp only [Int.add_assoc]
    ·have e2:(x<j+1)=(x<j):=by simp only [eq_iff_iff];omega
     simp only [mcell,e,if_false,e2]) (fun _ _=>rfl))
   have HG4:=hid (grown_trans HG.out (grown_trans (grown_trans (grown_trans (grown_set wr g (j*4) (.int .i64 ((k:Int)+4*(j:Int)))) (grown_set _ g (j*4+1) (.int .i64 ((k:Int)+4*(j:Int)+1)))) (grown_set _ g (j*4+2) (.int .i64 ((k:Int)+4*(j:Int)+1+1)))) (grown_set _ g (j*4+3) (.int .i64 ((k:Int)+4*(j:Int)+1+1+1)))))
   clear hr s0 s1 s2 s3 s4 step hp hml
   go_wp2
   exact ⟨⟨j+1,by simp,by simp;omega,by omega,HR4,HG4⟩,by simp [intOf];omega⟩
  ·obtain rfl:j=n:=by omega
   go_wp2
   go_ret
   exact ⟨rfl,HW.out,HG.out⟩
theorem mcell_flat (k:Nat) (c:Nat→List Value) (n:Nat):Nst.flat (mcell k c n) n=nvals (mkN k n):=by
 have h:=nvals_flat (mkN k n)
 rw [mkN_len] at h
 rw [←h]
 refine Nst.flat_congr (fun j hj=>?_)
 rw [mkN_J hj]
 simp only [mcell,hj,if_true]
theorem markNodesO (B k:Nat) (l:List NodeD) (v:Value) (w:World) (hn:l.length≤1048576) (hk:k≤1000000000000000) (h:w.ownsRow B 210 4 v l.length (nvals l)):
    Calls Tryz.prog 102 #[v,.int .i64 (k:Int)] w fun e w'=>e=.returned (.int .i64 ((k+4*l.length:Nat):Int))∧w'.ownsRow B 210 4 v l.length (nvals (mkN k l.length))∧w.grownBy w' v.ownBlock:=by
 rcases Nat.eq_zero_or_pos l.length with e | e
 ·have e2:l=[]:=List.eq_nil_of_length_eq_zero e
  subst e2
  obtain ⟨a,cap,rfl⟩:=Nst.own_slice h
  have H:=hid h
  clear h
  go_enter Tryz.func102,Tryz.ntmps102
  go_wp2
  refine wp_loop_rounds 2 ?_
  rw [rounds_succ]
  go_wp2
  go_ret
  exact ⟨by simp,H.out,grown_below (Below.refl _ _)⟩
 ·obtain ⟨g,cap,rfl,hB,hg,hc,hm⟩:=Nst.own_some h e
  have hA:Nst.At w B 210 4 (.slice (some ⟨g,0,none⟩) l.length cap) l.length (fun i=>nval (NJ l i)) 0 Z0:=⟨by rw [nvals_flat];exact h,fun i hi=>by omega,fun i j hi=>by omega,fun i hi=>by omega⟩
  refine (markNodes B g cap l.length k _ w hn hk (fun _ _=>rfl) hA).mono ?_
  rintro e w' ⟨h1,h2,h3⟩
  refine ⟨h1,?_,h3⟩
  have:=h2.row
  rw [mcell_flat] at this
  exact this
set_option maxRecDepth 100000 in
set_option maxHeartbeats 4000000 in
theorem heldNodes (B n k:Nat) (v:Value) (w:World) (hn:n≤1048576) (hk:k≤1000000000000000) (ha:Nd.At w B v (mkN k n)):
    Calls Tryz.prog 202 #[v,.int .i64 (k:Int)] w fun e w'=>e=.returned (.int .i64 ((k+4*n:Nat):Int))∧Below w.heap.size w w':=by
 obtain ⟨a,cap,rfl⟩:=ha.slice
 rw [mkN_len] at ha ⊢
 have HA:=hid ha
 clear ha
 go_enter Tryz.func202,Tryz.ntmps202
 go_wp2
 go_loopw [1,5] (fun q i wr=>∃(j:Nat),i=.int .i64 j∧q=.int .i64 ((k+4*j:Nat):Int)∧j≤n∧Hid (Below w.heap.size w wr)) (fun _ i _=>n - (intOf i).toNat)
 case atStart=>exact ⟨0,rfl,by simp,Nat.zero_le _,hid (Below.refl _ _)⟩
 case round=>
  obtain ⟨j,rfl,rfl,hj,HB⟩:=hrel
  by_cases hlt:j<n
  ·have q1:(j:Int)<(n:Int):=by omega
   obtain ⟨g,o,rfl,hg,c0,c1,c2,c3⟩:=(HA.out.below HB.out).at (i:=j) (by rw [mkN_len];exact hlt)
   rw [mkN_get] at c0 c1 c2 c3
   replace c0:wr.cell? ⟨g,o+j*4,none⟩=some (.int .i64 ((k+4*j:Nat):Int)):=c0
   replace c1:wr.cell? ⟨g,o+j*4+1,none⟩=some (.int .i64 ((k+4*j+1:Nat):Int)):=c1
   replace c2:wr.cell? ⟨g,o+j*4+2,none⟩=some (.int .i64 ((k+4*j+2:Nat):Int)):=c2
   replace c3:wr.cell? ⟨g,o+j*4+3,none⟩=some (.int .i64 ((k+4*j+3:Nat):Int)):=c3
   go_wp2
   exact ⟨⟨j+1,by simp,by simp;omega,by omega,HB⟩,by simp [intOf];omega⟩
  ·obtain rfl:j=n:=by omega
   go_wp2
   go_ret
   exact ⟨rfl,HB.out⟩
end Nk
end Go.Proofs.YtccklgopcjilcaaGreatDoor
