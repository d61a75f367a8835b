/- Laid together: IntsX, PqB, PqU, FpM, PlM, PlN, KcM, KfM. -/
import Derived.Test.YtccklgopcjilcaaGreatDoorJCT1
import Derived.Deep.QuietTactic
import Derived.BigQuiet
import Derived.Laws.OwnMore
import Derived.RangeFuncBox
import Derived.Test.YtccklgopcjilcaaGreatDoorJCT22
import Derived.Deep.RegionHeld3
import Derived.Test.YtccklgopcjilcaaGreatDoorJCT4
import Derived.Test.YtccklgopcjilcaaGreatDoorJCT5
import Derived.Test.YtccklgopcjilcaaGreatDoorJCT9
/- The law's own helpers over lists of numbers: whether two are the same, marks written into one, and whether it still holds them. -/
namespace Go.Proofs.YtccklgopcjilcaaGreatDoor
open Go.RowKit
set_option linter.unusedVariables false
namespace Ints
open Ex (hid)
def vals (xs:List Int):List Value:=xs.map fun x=>.int .i64 x
def IntsAt (w:World) (v:Value) (xs:List Int):Prop:=
 (v=.slice none 0 0∧xs=[])∨∃g cap,v=.slice (some ⟨g,0,none⟩) xs.length cap∧g<w.heap.size∧∀i x,xs[i]?=some x→w.cell? ⟨g,i,none⟩=some (.int .i64 x)
theorem IntsAt.slice {w:World} {v:Value} {xs:List Int} (h:IntsAt w v xs):∃a cap,v=.slice a xs.length cap:=by
 rcases h with ⟨rfl,rfl⟩ | ⟨g,cap,rfl,_⟩
 ·exact ⟨none,0,rfl⟩
 ·exact ⟨_,_,rfl⟩
theorem IntsAt.at {w:World} {a:Option Addr} {n cap:Nat} {xs:List Int} (h:IntsAt w (.slice a n cap) xs) {i:Nat} (hi:i<xs.length):∃g,a=some ⟨g,0,none⟩∧g<w.heap.size∧w.cell? ⟨g,i,none⟩=some (.int .i64 xs[i]):=by
 rcases h with ⟨_,rfl⟩ | ⟨g,cap,e,hg,hc⟩
 ·simp at hi
 ·cases e
  exact ⟨g,rfl,hg,hc i _ (List.getElem?_eq_getElem hi)⟩
theorem IntsAt.kept {w w':World} {v:Value} {xs:List Int} (h:IntsAt w v xs) (hs:w.heap.size≤w'.heap.size) (hb:∀b,v.ownBlock=some b→b<w.heap.size→w'.heap[b]?=w.heap[b]?):IntsAt w' v xs:=by
 rcases h with h | ⟨g,cap,rfl,hg,hc⟩
 ·exact .inl h
 ·exact .inr ⟨g,cap,rfl,Nat.lt_of_lt_of_le hg hs,fun i x hx=>by simp only [World.cell?,hb g rfl hg];exact hc i x hx⟩
theorem IntsAt.below {w w':World} {v:Value} {xs:List Int} (h:IntsAt w v xs) (hb:Below w.heap.size w w'):IntsAt w' v xs:=h.kept hb.size (fun b _ h=>hb.block b h)
theorem IntsAt.of {w:World} {base:Nat} {v:Value} {xs:List Int} (h:w.ownsRow base 2 1 v xs.length (vals xs)):IntsAt w v xs:=by
 obtain ⟨hl,⟨rfl,h0⟩ | ⟨g,cap,cur,rfl,hbg,hg,hle,hm,hs,ht⟩⟩:=h
 ·exact .inl ⟨rfl,List.length_eq_zero_iff.1 h0⟩
 ·refine .inr ⟨g,cap,rfl,(Array.getElem?_eq_some_iff.1 hg).1,fun i t hti=>?_⟩
  have hi:i<xs.length:=(List.getElem?_eq_some_iff.1 hti).1
  have:cur[i]?=some (.int .i64 t):=by
   have h2:=congrArg (·[i]?) ht
   simp only [vals,Nat.mul_one,List.getElem?_take,List.getElem?_map,hti,Option.map_some,hi,if_true] at h2
   simpa using h2
  simp [World.cell?,hg,this]
theorem below_drewN {B:Nat} {a w:World} (h:Below B a w) (n:Nat):Below B a (w.drewN n):=⟨h.os,h.tape,h.output,h.size,h.block⟩
set_option maxRecDepth 100000 in
set_option maxHeartbeats 2000000 in
theorem eqS (v1 v2:Value) (xs:List Int) (w:World) (hn:xs.length≤1048576) (h1:IntsAt w v1 xs) (h2:IntsAt w v2 xs):
    Calls Tryz.prog 201 #[v1,v2] w fun e w'=>e=.returned (.bool true)∧Below w.heap.size w w':=by
 obtain ⟨a1,c1,rfl⟩:=h1.slice
 obtain ⟨a2,c2,rfl⟩:=h2.slice
 have H1:=hid h1
 have H2:=hid h2
 clear h1 h2
 have hb:((xs.length:Int) != (xs.length:Int))=false:=by simp
 go_enter Tryz.func201,Tryz.ntmps201
 go_wp2
 go_loopw [5] (fun i wr=>∃k:Nat,i=.int .i64 k∧k≤xs.length∧Below w.heap.size w wr) (fun i _=>xs.length - (intOf i).toNat)
 case atStart=>exact ⟨0,rfl,Nat.zero_le _,Below.refl _ _⟩
 case round=>
  obtain ⟨k,rfl,hk,hbel⟩:=hrel
  by_cases hlt:k<xs.length
  ·obtain ⟨g1,rfl,hg1,hc1⟩:=(H1.out.below hbel).at hlt
   obtain ⟨g2,rfl,hg2,hc2⟩:=(H2.out.below hbel).at hlt
   generalize xs[k]=x at *
   have hne:(x != x)=false:=by simp
   have hne2:(x==x)=true:=by simp
   have q1:(k:Int)<(xs.length:Int):=by omega
   go_wp2
   go_quiet (fail)
   go_wp2
   exact ⟨⟨k+1,by simp,by omega,below_drewN hbel nq⟩,by simp [intOf];omega⟩
  ·go_wp2
   go_ret
   exact ⟨rfl,hbel⟩
def marksTo (n:Nat):List Int:=(List.range n).map fun (i:Nat)=>(i:Int)+1
theorem marksTo_len (n:Nat):(marksTo n).length=n:=by simp [marksTo]
theorem marksTo_succ (n:Nat):marksTo (n+1)=marksTo n++[(n:Int)+1]:=by simp [marksTo,List.range_succ]
theorem marksTo_get {n i:Nat} (h:i<n):(marksTo n)[i]?=some ((i:Int)+1):=by simp [marksTo,h]
def half (xs:List Int) (i:Nat):List Int:=marksTo i++xs.drop i
theorem half_set {xs:List Int} {i:Nat} (h:i<xs.length):(half xs i).set i ((i:Int)+1)=half xs (i+1):=by
 unfold half
 rw [marksTo_succ,List.drop_eq_getElem_cons h,List.set_append_right _ _ (Nat.le_of_eq (marksTo_len i)),marksTo_len,Nat.sub_self,List.set_cons_zero,List.append_assoc]
 rfl
theorem owns_cell {w:World} {base g n cap i:Nat} {e:TypeId} {xs:List Value} (h:w.ownsRow base e 1 (.slice (some ⟨g,0,none⟩) n cap) n xs) (hi:i<n):
    (∃u,w.cell? ⟨g,i,none⟩=some u)∧w.frozen? ⟨g,i,none⟩=false∧base≤g∧g<w.heap.size:=by
 obtain ⟨hl,⟨h0,_⟩ | ⟨g',cap',cur,hv,hbg,hg,hle,hm,hs,ht⟩⟩:=h
 ·cases h0
 ·cases hv
  have hlt:i<cur.size:=by omega
  exact ⟨⟨cur[i],by simp [World.cell?,hg,hlt]⟩,by simp [World.frozen?,hg],hbg,(Array.getElem?_eq_some_iff.1 hg).1⟩
theorem owns_some {w:World} {base n:Nat} {e:TypeId} {v:Value} {xs:List Value} (h:w.ownsRow base e 1 v n xs) (hn:0<n):∃g cap,v=.slice (some ⟨g,0,none⟩) n cap:=by
 obtain ⟨hl,⟨_,h0⟩ | ⟨g',cap',cur,hv,_⟩⟩:=h
 ·omega
 ·exact ⟨_,_,hv⟩
theorem owns_slice {w:World} {base n:Nat} {e:TypeId} {v:Value} {xs:List Value} (h:w.ownsRow base e 1 v n xs):∃a cap,v=.slice a n cap:=by
 obtain ⟨hl,⟨rfl,rfl⟩ | ⟨g',cap',cur,hv,_⟩⟩:=h
 ·exact ⟨_,_,rfl⟩
 ·exact ⟨_,_,hv⟩
theorem owns_below {w w':World} {base:Nat} {e:TypeId} {size n:Nat} {v:Value} {xs:List Value} (h:w.ownsRow base e size v n xs) (hb:Below w.heap.size w w'):w'.ownsRow base e size v n xs:=
 h.kept (row:=none) ⟨hb.os,hb.tape,hb.output,hb.size,fun k hk _=>hb.block k hk⟩ (by cases v.ownBlock <;> simp)
theorem grown_refl (w:World) (row:Option Nat):w.grownBy w row:=⟨rfl,rfl,rfl,Nat.le_refl _,fun _ _ _=>rfl⟩
theorem grown_after {w w1 w2:World} {row:Option Nat} (h:w.grownBy w1 row) (h2:w1.grownBy w2 row):w.grownBy w2 row:=
 ⟨h2.os.trans h.os,h2.tape.trans h.tape,h2.output.trans h.output,Nat.le_trans h.size h2.size,fun k hk hr=>(h2.block k (Nat.lt_of_lt_of_le hk h.size) hr).trans (h.block k hk hr)⟩
theorem grown_set {w w1:World} {g:Nat} (h:w.grownBy w1 (some g)) (i:Nat) (u:Value):w.grownBy (w1.setCell ⟨g,i,none⟩ u) (some g):=
 grown_after h ⟨rfl,rfl,rfl,by simp [World.setCell],fun k hk hr=>Below.heap_setCell _ _ _ _ (fun e=>hr (by rw [e]))⟩
set_option maxRecDepth 100000 in
set_option maxHeartbeats 2000000 in
theorem markS (B:Nat) (v:Value) (xs:List Int) (w:World) (hn:xs.length≤1048576) (h:w.ownsRow B 2 1 v xs.length (vals xs)):
    Calls Tryz.prog 126 #[v,.int .i64 1] w fun e w'=>e=.returned (.int .i64 (1+(xs.length:Int)))∧w'.ownsRow B 2 1 v xs.length (vals (marksTo xs.length))∧w.grownBy w' v.ownBlock:=by
 obtain ⟨a,cap,rfl⟩:=owns_slice h
 have HO:=hid h
 clear h
 go_enter Tryz.func126,Tryz.ntmps126
 go_wp2
 go_loopw [1,5] (fun q i wr=>∃k:Nat,i=.int .i64 k∧q=.int .i64 (1+(k:Int))∧k≤xs.length∧Hid (wr.ownsRow B 2 1 (.slice a xs.length cap) xs.length (vals (half xs k)))∧w.grownBy wr (Value.slice a xs.length cap).ownBlock) (fun _ i _=>xs.length - (intOf i).toNat)
 case atStart=>exact ⟨0,rfl,rfl,Nat.zero_le _,hid (by simpa [half,marksTo] using HO.out),grown_refl _ _⟩
 case round=>
  obtain ⟨k,rfl,rfl,hk,HR,hbel⟩:=hrel
  by_cases hlt:k<xs.length
  ·obtain ⟨g,c2,e2⟩:=owns_some HR.out (by omega)
   cases e2
   have q1:(k:Int)<(xs.length:Int):=by omega
   obtain ⟨⟨u,hcu⟩,hfu,hbg,hgl⟩:=owns_cell HR.out hlt
   have HS:Hid ((wr.setCell ⟨g,k,none⟩ (.int .i64 (1+(k:Int)))).ownsRow B 2 1 (.slice (some ⟨g,0,none⟩) xs.length cap) xs.length (vals (half xs (k+1)))):=hid (by
    have h:=(HR.out.stored k (.int .i64 (1+(k:Int)))).1
    have e:(vals (half xs k)).set k (.int .i64 (1+(k:Int)))=vals (half xs (k+1)):=by
     unfold vals
     rw [show (1+(k:Int))=(k:Int)+1 by omega,←half_set hlt]
     simp
    rw [e] at h
    exact h)
   have hb2:w.grownBy (wr.setCell ⟨g,k,none⟩ (.int .i64 (1+(k:Int)))) (some g):=grown_set hbel k _
   go_wp2
   exact ⟨⟨k+1,by simp,by simp;omega,by omega,HS,hb2⟩,by simp [intOf];omega⟩
  ·obtain rfl:k=xs.length:=by omega
   have HS:Hid (wr.ownsRow B 2 1 (.slice a xs.length cap) xs.length (vals (marksTo xs.length))):=hid (by simpa [half] using HR.out)
   go_wp2
   go_ret
   exact ⟨rfl,HS.out,hbel⟩
set_option maxRecDepth 100000 in
set_option maxHeartbeats 2000000 in
theorem heldS (v:Value) (n:Nat) (w:World) (hn:n≤1048576) (h:IntsAt w v (marksTo n)):
    Calls Tryz.prog 170 #[v,.int .i64 1] w fun e w'=>e=.returned (.int .i64 (1+(n:Int)))∧w'=w:=by
 obtain ⟨a,cap,rfl⟩:=h.slice
 rw [marksTo_len] at h ⊢
 have H1:=hid h
 clear h
 go_enter Tryz.func170,Tryz.ntmps170
 go_wp2
 go_loop [1,5] (fun q i=>∃k:Nat,i=.int .i64 k∧q=.int .i64 (1+(k:Int))∧k≤n) (fun _ i=>n - (intOf i).toNat)
 case atStart=>exact ⟨0,rfl,rfl,Nat.zero_le _⟩
 case round=>
  obtain ⟨k,rfl,rfl,hk⟩:=hrel
  by_cases hlt:k<n
  ·obtain ⟨g,rfl,hg,hc⟩:=H1.out.at (i:=k) (by rw [marksTo_len];exact hlt)
   have hmt:(marksTo n)[k]'(by rw [marksTo_len];exact hlt)=1+(k:Int):=by
    have h:=marksTo_get hlt
    rw [List.getElem?_eq_getElem (by rw [marksTo_len];exact hlt)] at h
    rw [Option.some.inj h];omega
   rw [hmt] at hc
   have hne:((1+(k:Int)) != (1+(k:Int)))=false:=by simp
   clear hmt
   have q1:(k:Int)<(n:Int):=by omega
   go_wp2
   exact ⟨⟨k+1,by simp,by simp;omega,by omega⟩,by simp [intOf];omega⟩
  ·obtain rfl:k=n:=by omega
   go_wp2
   go_ret
   exact ⟨rfl,rfl⟩
end Ints
end Go.Proofs.YtccklgopcjilcaaGreatDoor
/- LeavesOf, of the specification and of the program. Condition of the second: the table of rules lies as its initialiser lays it. -/
namespace Go.Proofs.YtccklgopcjilcaaGreatDoor
open Go.RowKit
set_option linter.unusedVariables false
namespace Pf
open Ex (hid inR eFault)
open Nd (NodeD)
open St (StepD)
open Tr (Chain cutTo onPath top nf ElemD)
open Pt (kidVals infoI64 info_parts)
open Ints (vals IntsAt)
theorem own_mono {w:World} {B B' n:Nat} {e:TypeId} {sz:Nat} {v:Value} {xs:List Value} (h:w.ownsRow B e sz v n xs) (hb:B'≤B):w.ownsRow B' e sz v n xs:=by
 refine ⟨h.1,?_⟩
 rcases h.2 with h | ⟨g,cap,cur,rfl,h1,r⟩
 ·exact .inl h
 ·exact .inr ⟨g,cap,cur,rfl,Nat.le_trans hb h1,r⟩
end Pf
end Go.Proofs.YtccklgopcjilcaaGreatDoor
/- A step and what is below it: plainly, and by the specification. -/
namespace Go.Proofs.YtccklgopcjilcaaGreatDoor
open Go.RowKit
set_option linter.unusedVariables false
namespace Pf
open Ex (hid inR eFault specIn)
open Nd (NodeD)
open St (StepD)
open Tr (Chain cutTo onPath top nf ElemD)
open Pt (kidVals infoI64 info_parts)
open Ints (vals IntsAt)
def dOf (ss:List StepD) (i:Nat):Nat:=(path ss (i+1)).length
def uFrom (ss:List StepD) (k i:Nat):List Nat:=(List.range' i (ss.length - i)).takeWhile fun j=>decide (dOf ss k<dOf ss j)
def underN (ss:List StepD) (k:Nat):List Nat:=k :: uFrom ss k (k+1)
end Pf
end Go.Proofs.YtccklgopcjilcaaGreatDoor
/- What is under a step, as plain facts: it stands in one piece; nothing is under leaves; all is under the first. -/
namespace Go.Proofs.YtccklgopcjilcaaGreatDoor
set_option linter.unusedVariables false
namespace Pf
open St (StepD)
open Tr (Chain cutTo onPath top nf ElemD cut_no cut_le top_cut)
theorem take_range (p:Nat→Bool):∀(n s:Nat),∃m,m≤n∧(List.range' s n).takeWhile p=List.range' s m
 | 0,s=>⟨0,Nat.le_refl _,rfl⟩
 | n+1,s=>by
  rw [List.range'_succ,List.takeWhile_cons]
  by_cases h:p s=true
  ·rw [if_pos h]
   obtain ⟨m,hm,e⟩:=take_range p n (s+1)
   exact ⟨m+1,by omega,by rw [e,List.range'_succ]⟩
  ·rw [if_neg h]
   exact ⟨0,Nat.zero_le _,rfl⟩
end Pf
end Go.Proofs.YtccklgopcjilcaaGreatDoor
/- A process made plain, as plain functions: the tree of a step, made plain, and the list that it comes to. -/
namespace Go.Proofs.YtccklgopcjilcaaGreatDoor
open Go.RowKit
set_option linter.unusedVariables false
namespace Pl
open Ex (hid inR)
open Nd (NodeD)
open St (StepD)
open Tr (Chain cutTo onPath top nf ElemD)
open Pf
structure PT where
 s:StepD
 kids:List PT
def cnt:Nat→PT→Nat
 | 0,_=>0
 | f+1,t=>1+(t.kids.map (cnt f)).sum
/-! ### how much of it there can be -/
/-! ### how deep -/
theorem kid_mem {ss:List StepD} {k j:Nat} (h:j∈kidsL ss k):j<ss.length∧(PJ ss j).parent=(k:Int):=by
 unfold kidsL Pf.kidsN at h
 have:=List.mem_filter.1 h
 exact ⟨List.mem_range.1 this.1,by simpa using this.2⟩
def deepG (ss:List StepD) (k:Nat):Nat:=(path ss (k+1)).length
end Pl
end Go.Proofs.YtccklgopcjilcaaGreatDoor
/- The list that the tree of a process comes to is the process; how many steps are left when it is made plain. -/
namespace Go.Proofs.YtccklgopcjilcaaGreatDoor
open Go.RowKit
set_option linter.unusedVariables false
namespace Pl
open Ex (hid inR)
open St (StepD)
open Tr (Chain cutTo onPath top nf ElemD cut_no cut_le top_cut)
open Pf
theorem cut_suffix {p:Int}:∀(S:List Nat),cutTo p S <:+ S
 | []=>List.suffix_refl _
 | a :: r=>by
  unfold cutTo
  split
  ·exact List.suffix_refl _
  ·exact (cut_suffix r).trans (List.suffix_cons a r)
theorem path_succ (ss:List StepD) (i:Nat):path ss (i+1)=i :: cutTo (PJ ss i).parent (path ss i):=rfl
theorem deep_succ (ss:List StepD) (i:Nat):deepG ss i=(cutTo (PJ ss i).parent (path ss i)).length+1:=by unfold deepG;rw [path_succ];simp
structure End (ss:List StepD) (k e:Nat):Prop where
 lt:k<e
 le:e≤ss.length
 deep:∀i,k<i→i<e→deepG ss k<deepG ss i
 stop:e=ss.length∨deepG ss e≤deepG ss k
theorem suf_of {α:Type} {a b l:List α} (h1:a <:+ l) (h2:b <:+ l) (h:a.length≤b.length):a <:+ b:=by
 rcases List.suffix_or_suffix_of_suffix h1 h2 with h3 | h3
 ·exact h3
 ·have:b.length=a.length:=Nat.le_antisymm h3.length_le h
  rw [h3.eq_of_length this]
  exact List.suffix_refl _
theorem End.suf {ss:List StepD} {k e:Nat} (h:End ss k e):∀(m:Nat),k+1+m≤e→path ss (k+1) <:+ path ss (k+1+m)
 | 0,_=>List.suffix_refl _
 | m+1,hm=>by
  have h1:=h.suf m (by omega)
  have h2:=h.deep (k+1+m) (by omega) (by omega)
  rw [←Nat.add_assoc,path_succ]
  refine (suf_of h1 (cut_suffix (path ss (k+1+m))) ?_).trans (List.suffix_cons _ _)
  rw [deep_succ ss (k+1+m)] at h2
  have e:deepG ss k=(path ss (k+1)).length:=rfl
  omega
theorem on_path {ss:List StepD} {i:Nat} (hp:pFault ss=0) (hi:i<ss.length) (h0:0<i):onPath (PJ ss i).parent (path ss i)=true:=by
 have h:=of_one (first_all (of_p hp).2.1 hi)
 cases hx:onPath (PJ ss i).parent (path ss i)
 ·exact absurd ⟨h0,hx⟩ h.2.2.1
 ·rfl
theorem End.par {ss:List StepD} {k e s:Nat} (hp:pFault ss=0) (h:End ss k e) (h1:k<s) (h2:s<e) (h3:deepG ss s=deepG ss k+1):(PJ ss s).parent=(k:Int):=by
 obtain ⟨m,rfl⟩:∃m,s=k+1+m:=⟨s - (k+1),by omega⟩
 have hs:=h.suf m (by omega)
 have hn:k+1+m<ss.length:=Nat.lt_of_lt_of_le h2 h.le
 have hl:(cutTo (PJ ss (k+1+m)).parent (path ss (k+1+m))).length=(path ss (k+1)).length:=by
  rw [deep_succ ss (k+1+m)] at h3
  have e:deepG ss k=(path ss (k+1)).length:=rfl
  omega
 have he:=(suf_of hs (cut_suffix (p:=(PJ ss (k+1+m)).parent) _) (by omega)).eq_of_length hl.symm
 have ht:=top_cut (on_path hp hn (by omega))
 rw [←he] at ht
 rw [←ht]
 rfl
/-! ### the kids from a place on -/
theorem take_snoc {ss:List StepD} {k:Nat} (hk:k<ss.length):ss.take k++[ss[k]]=ss.take (k+1):=List.take_append_getElem hk
/-! ### how many steps are left -/
theorem cnt_pos (F:Nat) (t:PT):1≤cnt (F+1) t:=by rw [cnt];omega
end Pl
end Go.Proofs.YtccklgopcjilcaaGreatDoor
/- The chart, told plainly: what comes of it where a step is entered, and where one is over. -/
namespace Go.Proofs.YtccklgopcjilcaaGreatDoor
set_option linter.unusedVariables false
namespace Kc
open Ex (inR evalCode evalVal vFault)
open St (StepD)
open Pf
open Pl (deepG)
structure CS where
 status:Int
 now:Int
 vars:List Int
 acts:Nat→Int
 dues:Nat→Int
def upd (f:Nat→Int) (i:Nat) (v:Int):Nat→Int:=fun j=>if j=i then v else f j
def zer (f:Nat→Int) (i e:Nat):Nat→Int:=fun j=>if i≤j∧j<e then 0 else f j
def endOf (ss:List StepD) (k:Nat):Nat:=k+(underN ss k).length
def stopped (s:CS) (st:Int):CS:=⟨st,s.now,s.vars,fun _=>0,fun _=>0⟩
def act (s:CS) (k:Nat) (v:Int):CS:={ s with acts:=upd s.acts k v }
def due (s:CS) (k:Nat) (v:Int):CS:={ s with dues:=upd s.dues k v }
def setV (s:CS) (k:Nat) (v:Int):CS:={ s with vars:=s.vars.set k v }
def idle (ss:List StepD) (s:CS) (k:Nat):CS:={ s with acts:=zer s.acts k (endOf ss k),dues:=zer s.dues k (endOf ss k) }
def pick (ss:List StepD) (vars:List Int):List Nat→Option Nat
 | []=>none
 | k :: ks=>if (PJ ss k).cond.length=0 then some k else if evalCode (PJ ss k).cond vars≠0 then none else if evalVal (PJ ss k).cond vars=1 then some k else pick ss vars ks
def aft:List Nat→Nat→Option Nat
 | a :: b :: r,k=>if a=k then some b else aft (b :: r) k
 | _,_=>none
def allOver (s:CS) (ks:List Nat):Bool:=ks.all fun k=>s.acts k==2
def kid (ss:List StepD) (k i:Nat):Nat:=(kidsL ss k).getD i 0
def beginG (E O:Nat→CS→CS) (ss:List StepD) (k:Nat) (s:CS):CS:=
 if (PJ ss k).kind=1 then E (kid ss k 0) s
 else if (PJ ss k).kind=3 then (match pick ss s.vars (kidsL ss k) with | some j=>E j s | none=>stopped s 3)
 else if (PJ ss k).kind=4 then (kidsL ss k).foldl (fun s j=>E j s) s
 else if (PJ ss k).kind=6 then due s k (s.now+(PJ ss k).arg)
 else if (PJ ss k).kind=7 then (if evalCode (PJ ss k).expr s.vars=0 then O k (setV s (PJ ss k).arg.toNat (evalVal (PJ ss k).expr s.vars)) else stopped s 3)
 else if (PJ ss k).kind=8 then E (kid ss k 0) (due s k (s.now+(PJ ss k).arg))
 else s
def behindG (E O:Nat→CS→CS) (ss:List StepD) (k:Nat) (s:CS):CS:=
 if (PJ ss k).parent<0 then stopped s 2
 else if (PJ ss (PJ ss k).parent.toNat).kind=4 then (if allOver (act s k 2) (kidsL ss (PJ ss k).parent.toNat)=true then O (PJ ss k).parent.toNat (act s k 2) else act s k 2)
 else if (PJ ss (PJ ss k).parent.toNat).kind=1 then (match aft (kidsL ss (PJ ss k).parent.toNat) k with | some j=>E j s | none=>O (PJ ss k).parent.toNat s)
 else O (PJ ss k).parent.toNat s
def go (ss:List StepD):Nat→Bool→Nat→CS→CS
 | 0,_,_,s=>s
 | f+1,false,k,s=>if s.status=1 then beginG (go ss f false) (go ss f true) ss k (act s k 1) else s
 | f+1,true,k,s=>behindG (go ss f false) (go ss f true) ss k (idle ss s k)
theorem go_enter (ss:List StepD) (f k:Nat) (s:CS):go ss (f+1) false k s=if s.status=1 then beginG (go ss f false) (go ss f true) ss k (act s k 1) else s:=rfl
/-! ### places -/
theorem kid_mem {ss:List StepD} {k j:Nat}:j∈kidsL ss k↔j<ss.length∧(PJ ss j).parent=(k:Int):=by
 unfold kidsL kidsN
 rw [List.mem_filter,List.mem_range,beq_iff_eq]
/-! ### how far it is still -/
theorem kid_in {ss:List StepD} {k i:Nat} (h:i<(kidsL ss k).length):kid ss k i∈kidsL ss k:=by
 unfold kid
 rw [List.getD_eq_getElem?_getD,List.getElem?_eq_getElem h]
 exact List.getElem_mem h
/-! ### kinds and kids -/
theorem many {ss:List StepD} {k:Nat} (hp:pFault ss=0) (hk:k<ss.length):manyOk (PJ ss k).kind (kidsL ss k).length=true:=by
 have h:=first_all (of_p hp).2.2.1 hk
 cases hx:manyOk (PJ ss k).kind (kidsL ss k).length
 ·rw [link_many hx] at h;cases h
 ·rfl
theorem kids_seq {ss:List StepD} {k:Nat} (hp:pFault ss=0) (hk:k<ss.length) (h:(PJ ss k).kind=1):1≤(kidsL ss k).length:=by
 have:=many hp hk
 rw [h] at this
 simpa [manyOk] using this
theorem kids_two {ss:List StepD} {k:Nat} (hp:pFault ss=0) (hk:k<ss.length) (h:(PJ ss k).kind=3∨(PJ ss k).kind=4):2≤(kidsL ss k).length:=by
 have:=many hp hk
 rcases h with h | h <;> rw [h] at this <;> simpa [manyOk] using this
theorem kids_guard {ss:List StepD} {k:Nat} (hp:pFault ss=0) (hk:k<ss.length) (h:(PJ ss k).kind=8):(kidsL ss k).length=2:=by
 have:=many hp hk
 rw [h] at this
 simpa [manyOk] using this
/-! ### what stays -/
structure Ok (s:CS):Prop where
 vars:vFault s.vars=0
 lo:0≤s.now
 hi:s.now≤1000000
theorem Ok.stopped {s:CS} (h:Ok s) (st:Int):Ok (stopped s st):=⟨h.vars,h.lo,h.hi⟩
theorem Ok.act {s:CS} (h:Ok s) (k:Nat) (v:Int):Ok (act s k v):=⟨h.vars,h.lo,h.hi⟩
theorem Ok.due {s:CS} (h:Ok s) (k:Nat) (v:Int):Ok (due s k v):=⟨h.vars,h.lo,h.hi⟩
theorem Ok.idle {ss:List StepD} {s:CS} (h:Ok s) (k:Nat):Ok (idle ss s k):=⟨h.vars,h.lo,h.hi⟩
theorem Ok.setV {s:CS} (h:Ok s) (k:Nat) {v:Int} (hv:-1000000≤v∧v≤1000000):Ok (setV s k v):=by
 refine ⟨?_,h.lo,h.hi⟩
 obtain ⟨h4,hr⟩:=Ex.of_v h.vars
 refine Ex.v_ok (by simp [Kc.setV,h4]) (fun i hi=>?_)
 have hi2:i<s.vars.length:=by simpa [Kc.setV] using hi
 have e:(Kc.setV s k v).vars[i]=if k=i then v else s.vars[i]:=List.getElem_set _
 rw [e]
 split
 ·exact Ex.inR_iff.2 hv
 ·exact hr i hi2
end Kc
end Go.Proofs.YtccklgopcjilcaaGreatDoor
/- The fault of a chart, told plainly. -/
namespace Go.Proofs.YtccklgopcjilcaaGreatDoor
set_option linter.unusedVariables false
namespace Kc
open Ex (inR evalCode evalVal vFault hid)
open St (StepD)
open Ch (RunD)
open Pf
def fA (r:RunD):Nat→Int:=fun i=>r.marks.getD i 0
def fD (r:RunD):Nat→Int:=fun i=>r.dues.getD i 0
theorem fA_eq {r:RunD} {i:Nat} (h:i<r.marks.length):fA r i=r.marks[i]:=by unfold fA;rw [List.getD_eq_getElem?_getD,List.getElem?_eq_getElem h];rfl
theorem fD_eq {r:RunD} {i:Nat} (h:i<r.dues.length):fD r i=r.dues[i]:=by unfold fD;rw [List.getD_eq_getElem?_getD,List.getElem?_eq_getElem h];rfl
def within (l:List Int) (m:Int):Bool:=l.all fun x=>inR x 0 m
def stateC (st now:Int) (vars:List Int):Int:=if inR st 1 3=false then 3 else if inR now 0 1000000=false then 3 else vFault vars
def numC (n:Nat) (r:RunD):Int:=
 if stateC r.status r.now r.vars≠0 then stateC r.status r.now r.vars else if r.marks.length≠n then 2 else if r.dues.length≠n then 2 else if within r.marks 2=false then 3 else if within r.dues (r.now+99)=false then 3 else 0
def cntK (A:Nat→Int) (l:List Nat) (v:Int):Nat:=(l.filter fun j=>A j==v).length
theorem cntK_snoc (A:Nat→Int) (l:List Nat) (j:Nat) (v:Int):cntK A (l++[j]) v=cntK A l v+(if A j=v then 1 else 0):=by
 unfold cntK
 rw [List.filter_append,List.length_append]
 by_cases h:A j=v <;> simp [h]
theorem cntK_le (A:Nat→Int) (l:List Nat) (v:Int):cntK A l v≤l.length:=List.length_filter_le _ _
theorem cntK_two (A:Nat→Int):∀(l:List Nat),cntK A l 1+cntK A l 2≤l.length
 | []=>Nat.le_refl _
 | a :: l=>by
  have:=cntK_two A l
  unfold cntK at this ⊢
  simp only [List.filter_cons,List.length_cons]
  by_cases h1:A a=1
  ·simp [h1];omega
  ·by_cases h2:A a=2
   ·simp [h2];omega
   ·simp [h1,h2];omega
def wrongP (ss:List StepD) (A D:Nat→Int) (k:Nat):Bool:=
 if A k≠1 then decide (0<cntK A (kidsL ss k) 1+cntK A (kidsL ss k) 2) || (D k != 0)
 else if (PJ ss k).kind=1∨(PJ ss k).kind=3 then (cntK A (kidsL ss k) 1 != 1) || decide (0<cntK A (kidsL ss k) 2) || (D k != 0)
 else if (PJ ss k).kind=4 then decide (cntK A (kidsL ss k) 1<1) || (cntK A (kidsL ss k) 1+cntK A (kidsL ss k) 2 != (kidsL ss k).length) || (D k != 0)
 else if (PJ ss k).kind=8 then (cntK A (kidsL ss k) 1 != 1) || decide (0<cntK A (kidsL ss k) 2) || ((D k != 0) != (A (kid ss k 0)==1))
 else if (PJ ss k).kind=6 then !(D k != 0)
 else if (PJ ss k).kind=7 then true
 else (D k != 0)
def zeros (l:List Int):Bool:=l.all fun x=>x==0
def fitsP (ss:List StepD) (r:RunD):Bool:=
 if r.status≠1 then zeros r.marks&&zeros r.dues else (fA r 0==1)&&(List.range ss.length).all fun k=>!wrongP ss (fA r) (fD r) k
def chartC (ss:List StepD) (r:RunD):Int:=
 if pFault ss≠0 then pFault ss else if numC ss.length r≠0 then numC ss.length r else if fitsP ss r=true then 0 else 1
theorem c_proc {ss:List StepD} {r:RunD} (h:pFault ss≠0):chartC ss r=pFault ss:=by unfold chartC;rw [if_pos h]
theorem c_num {ss:List StepD} {r:RunD} (h:pFault ss=0) (h2:numC ss.length r≠0):chartC ss r=numC ss.length r:=by unfold chartC;rw [if_neg (by simp [h]),if_pos h2]
theorem c_form {ss:List StepD} {r:RunD} (h:pFault ss=0) (h2:numC ss.length r=0) (h3:fitsP ss r=false):chartC ss r=1:=by unfold chartC;rw [if_neg (by simp [h]),if_neg (by simp [h2]),if_neg (by simp [h3])]
theorem c_ok {ss:List StepD} {r:RunD} (h:pFault ss=0) (h2:numC ss.length r=0) (h3:fitsP ss r=true):chartC ss r=0:=by unfold chartC;rw [if_neg (by simp [h]),if_neg (by simp [h2]),if_pos h3]
theorem of_c {ss:List StepD} {r:RunD} (h:chartC ss r=0):pFault ss=0∧numC ss.length r=0∧fitsP ss r=true:=by
 by_cases h1:pFault ss=0
 ·by_cases h2:numC ss.length r=0
  ·cases h3:fitsP ss r
   ·rw [c_form h1 h2 h3] at h;cases h
   ·exact ⟨h1,h2,rfl⟩
  ·rw [c_num h1 h2] at h;exact absurd h h2
 ·rw [c_proc h1] at h;exact absurd h h1
theorem num_state {n:Nat} {r:RunD} (h:stateC r.status r.now r.vars≠0):numC n r=stateC r.status r.now r.vars:=by unfold numC;rw [if_pos h]
theorem num_len {n:Nat} {r:RunD} (h:stateC r.status r.now r.vars=0) (h2:¬(r.marks.length=n∧r.dues.length=n)):numC n r=2:=by
 unfold numC
 rw [if_neg (by simp [h])]
 by_cases h3:r.marks.length=n
 ·rw [if_neg (by simp [h3]),if_pos (fun e=>h2 ⟨h3,e⟩)]
 ·rw [if_pos h3]
theorem num_range {n:Nat} {r:RunD} (h:stateC r.status r.now r.vars=0) (h1:r.marks.length=n) (h2:r.dues.length=n) (h3:(within r.marks 2&&within r.dues (r.now+99))=false):numC n r=3:=by
 unfold numC
 rw [if_neg (by simp [h]),if_neg (by simp [h1]),if_neg (by simp [h2])]
 cases h4:within r.marks 2
 ·rw [if_pos rfl]
 ·rw [h4] at h3
  rw [if_neg (by simp),if_pos (by simpa using h3)]
theorem num_ok {n:Nat} {r:RunD} (h:stateC r.status r.now r.vars=0) (h1:r.marks.length=n) (h2:r.dues.length=n) (h3:within r.marks 2=true) (h4:within r.dues (r.now+99)=true):numC n r=0:=by
 unfold numC
 rw [if_neg (by simp [h]),if_neg (by simp [h1]),if_neg (by simp [h2]),if_neg (by simp [h3]),if_neg (by simp [h4])]
theorem of_num {n:Nat} {r:RunD} (h:numC n r=0):stateC r.status r.now r.vars=0∧r.marks.length=n∧r.dues.length=n∧within r.marks 2=true∧within r.dues (r.now+99)=true:=by
 by_cases h1:stateC r.status r.now r.vars=0
 ·by_cases h2:r.marks.length=n∧r.dues.length=n
  ·cases h3:(within r.marks 2&&within r.dues (r.now+99))
   ·rw [num_range h1 h2.1 h2.2 h3] at h;cases h
   ·simp only [Bool.and_eq_true] at h3
    exact ⟨h1,h2.1,h2.2,h3.1,h3.2⟩
  ·rw [num_len h1 h2] at h;cases h
 ·rw [num_state h1] at h;exact absurd h h1
theorem st_status {st now:Int} {vars:List Int} (h:inR st 1 3=false):stateC st now vars=3:=by unfold stateC;rw [if_pos h]
theorem st_now {st now:Int} {vars:List Int} (h:inR st 1 3=true) (h2:inR now 0 1000000=false):stateC st now vars=3:=by unfold stateC;rw [if_neg (by simp [h]),if_pos h2]
theorem st_vars {st now:Int} {vars:List Int} (h:inR st 1 3=true) (h2:inR now 0 1000000=true):stateC st now vars=vFault vars:=by unfold stateC;rw [if_neg (by simp [h]),if_neg (by simp [h2])]
theorem of_state {st now:Int} {vars:List Int} (h:stateC st now vars=0):inR st 1 3=true∧inR now 0 1000000=true∧vFault vars=0:=by
 cases h1:inR st 1 3
 ·rw [st_status h1] at h;cases h
 ·cases h2:inR now 0 1000000
  ·rw [st_now h1 h2] at h;cases h
  ·exact ⟨rfl,rfl,(st_vars h1 h2) ▸ h⟩
theorem within_take {l:List Int} {m:Int} {i:Nat} (hi:i<l.length):within (l.take (i+1)) m=(within (l.take i) m&&inR l[i] 0 m):=by
 unfold within
 rw [List.take_succ_eq_append_getElem hi,List.all_append]
 simp
theorem within_bad {l:List Int} {m:Int} {i:Nat} (hi:i<l.length) (h:inR l[i] 0 m=false):within l m=false:=by
 unfold within
 rw [List.all_eq_false]
 exact ⟨_,List.getElem_mem hi,by simp [h]⟩
theorem zeros_take {l:List Int} {i:Nat} (hi:i<l.length):zeros (l.take (i+1))=(zeros (l.take i)&&(l[i]==0)):=by
 unfold zeros
 rw [List.take_succ_eq_append_getElem hi,List.all_append]
 simp
theorem kids_none {ss:List StepD} {k:Nat} (hp:pFault ss=0) (hk:k<ss.length) (h:(PJ ss k).kind=2∨(PJ ss k).kind=5∨(PJ ss k).kind=6∨(PJ ss k).kind=7):kidsL ss k=[]:=by
 have:=many hp hk
 rcases h with h | h | h | h <;> rw [h] at this <;> simpa [manyOk] using this
theorem kind_in {ss:List StepD} {k:Nat} (hp:pFault ss=0) (hk:k<ss.length):1≤(PJ ss k).kind∧(PJ ss k).kind≤8:=by
 have h:=(of_one (first_all (of_p hp).2.1 hk)).1
 unfold formOk at h
 simp only [Bool.and_eq_true] at h
 exact Ex.inR_iff.1 h.1
def rightKids (ss:List StepD) (A:Nat→Int) (k:Nat):Bool:=
 if (kidsL ss k).length=0 then true
 else if A k≠1 then (cntK A (kidsL ss k) 1==0)&&(cntK A (kidsL ss k) 2==0)
 else if (PJ ss k).kind=4 then decide (0<cntK A (kidsL ss k) 1)&&(cntK A (kidsL ss k) 1+cntK A (kidsL ss k) 2==(kidsL ss k).length)
 else (cntK A (kidsL ss k) 1==1)&&(cntK A (kidsL ss k) 2==0)
def rightDue (ss:List StepD) (A D:Nat→Int) (k:Nat):Bool:=
 if (PJ ss k).kind=6 then (D k != 0)==(A k==1)
 else if (PJ ss k).kind=8 then (D k != 0)==(A (kid ss k 0)==1)
 else !(D k != 0)
def badP (ss:List StepD) (A D:Nat→Int) (k:Nat):Bool:=((PJ ss k).kind==7&&A k==1) || !rightKids ss A k || !rightDue ss A D k
theorem cnt_pos {A:Nat→Int} {l:List Nat} {j:Nat} {v:Int} (hj:j∈l) (h:A j=v):0<cntK A l v:=by
 unfold cntK
 exact List.length_pos_of_mem (List.mem_filter.2 ⟨hj,by simp [h]⟩)
theorem bad_wrong' (kind ak a0 dk:Int) (on ov n:Nat) (h1:1≤kind) (h8:kind≤8) (hn:kind=1∨kind=3∨kind=4∨kind=8→n≠0) (hz:kind=2∨kind=5∨kind=6∨kind=7→n=0∧on=0∧ov=0) (h0:kind=8→a0=1→0<on):
    ((kind==7&&ak==1) || !(if n=0 then true else if ak≠1 then (on==0)&&(ov==0) else if kind=4 then decide (0<on)&&(on+ov==n) else (on==1)&&(ov==0)) || !(if kind=6 then (dk != 0)==(ak==1) else if kind=8 then (dk != 0)==(a0==1) else !(dk != 0)))=
    (if ak≠1 then decide (0<on+ov) || (dk != 0) else if kind=1∨kind=3 then (on != 1) || decide (0<ov) || (dk != 0) else if kind=4 then decide (on<1) || (on+ov != n) || (dk != 0) else if kind=8 then (on != 1) || decide (0<ov) || ((dk != 0) != (a0==1)) else if kind=6 then !(dk != 0) else if kind=7 then true else (dk != 0)):=by
 have c8:kind=1∨kind=3∨kind=4∨kind=8∨kind=2∨kind=5∨kind=6∨kind=7:=by omega
 rw [Bool.eq_iff_iff]
 obtain ⟨pa,ea⟩:∃pa,pa=(ak==1):=⟨_,rfl⟩
 obtain ⟨pd,ed⟩:∃pd,pd=(dk != 0):=⟨_,rfl⟩
 obtain ⟨px,ex⟩:∃px,px=(a0==1):=⟨_,rfl⟩
 rw [←ea,←ed,←ex]
 have fa:ak=1↔pa=true:=by rw [ea];simp
 have fx:a0=1↔px=true:=by rw [ex];simp
 rw [fx] at h0
 simp only [ne_eq,fa]
 clear ea ed ex fa fx
 cases pa <;> cases pd <;> cases px
 all_goals
  rcases c8 with rfl | rfl | rfl | rfl | rfl | rfl | rfl | rfl
 all_goals
  simp at hn hz h0 ⊢
 all_goals
  first | omega | (simp [hn];done) | (simp [hn];omega) | (simp [hz];done) | (simp [hz];omega) | skip
theorem bad_wrong {ss:List StepD} (A D:Nat→Int) {k:Nat} (hp:pFault ss=0) (hk:k<ss.length):badP ss A D k=wrongP ss A D k:=by
 obtain ⟨h1,h8⟩:=kind_in hp hk
 unfold badP wrongP rightKids rightDue
 refine bad_wrong' _ _ _ _ _ _ _ h1 h8 (fun h=>?_) (fun h=>?_) (fun h ha=>?_)
 ·rcases h with h | h | h | h
  ·have:=kids_seq hp hk h;omega
  ·have:=kids_two hp hk (.inl h);omega
  ·have:=kids_two hp hk (.inr h);omega
  ·have:=kids_guard hp hk h;omega
 ·rw [kids_none hp hk h]
  exact ⟨rfl,rfl,rfl⟩
 ·have:=kids_guard hp hk h
  exact cnt_pos (kid_in (by omega)) ha
end Kc
end Go.Proofs.YtccklgopcjilcaaGreatDoor
