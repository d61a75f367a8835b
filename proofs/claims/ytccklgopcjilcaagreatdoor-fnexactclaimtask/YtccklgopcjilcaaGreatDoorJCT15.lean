/- Laid together: DkA, PtU, PtV. -/
import Derived.Test.YtccklgopcjilcaaGreatDoorJCT14
import Derived.Test.YtccklgopcjilcaaGreatDoorJCT4
import Derived.Maps.AppendAt
import Derived.Laws.OwnMore
import Derived.RangeFuncBox
import Derived.Below
/- A desk in memory: an engine and claims; the law's measure of it; an argument that is one. -/
namespace Go.Proofs.YtccklgopcjilcaaGreatDoor
open Go.RowKit Go.Deep
set_option linter.unusedVariables false
namespace Dk
open Ex (hid)
open St (StepD old_cell old_free setB)
open Ei (InstD)
open En (EngD)
open Cl (ClD)
open Ch (blk_set blk_cell blk_free new_blk new_at blk_lt)
structure DeskD where
 eng:EngD
 claims:List ClD
structure At (w:World) (B:Nat) (vp vi vc:Value) (d:DeskD):Prop where
 eng:En.At w B vp vi d.eng
 claims:Cl.At w B vc d.claims
theorem At.kept {w w':World} {B:Nat} {vp vi vc:Value} {d:DeskD} (h:At w B vp vi vc d) (hs:w.heap.size≤w'.heap.size) (hb:∀g,B≤g→g<w.heap.size→w'.heap[g]?=w.heap[g]?):At w' B vp vi vc d:=⟨h.eng.kept hs hb,h.claims.kept hs hb⟩
theorem At.below {w w':World} {B:Nat} {vp vi vc:Value} {d:DeskD} (h:At w B vp vi vc d) (hb:Below w.heap.size w w'):At w' B vp vi vc d:=⟨h.eng.below hb,h.claims.below hb⟩
theorem At.mono {w:World} {B B':Nat} {vp vi vc:Value} {d:DeskD} (h:At w B vp vi vc d) (hB:B'≤B):At w B' vp vi vc d:=⟨h.eng.mono hB,h.claims.mono hB⟩
theorem At.slices {w:World} {B:Nat} {vp vi vc:Value} {d:DeskD} (h:At w B vp vi vc d):(∃a k,vp=.slice a d.eng.procs.length k)∧(∃a k,vi=.slice a d.eng.insts.length k)∧∃a k,vc=.slice a d.claims.length k:=⟨h.eng.procs.slice,h.eng.insts.slice,h.claims.slice⟩
structure Ok (d:DeskD):Prop where
 eng:En.Ok d.eng
 nc:d.claims.length≤maxLen
structure Small (n:Int) (d:DeskD):Prop where
 eng:En.Small n d.eng
 claims:(d.claims.length:Int)≤n
structure Own (w:World) (B C:Nat) (vp vi vc:Value) (d:DeskD):Prop where
 ex:∃M,B≤M∧M≤C∧En.Own w B M vp vi d.eng∧Cl.Own w M C vc d.claims.length
theorem Own.kept {w w':World} {B C:Nat} {vp vi vc:Value} {d:DeskD} (h:Own w B C vp vi vc d) (hb:∀g,B≤g→g<C→g<w.heap.size→w'.heap[g]?=w.heap[g]?):Own w' B C vp vi vc d:=by
 obtain ⟨M,b1,b2,h1,h2⟩:=h.ex
 exact ⟨M,b1,b2,h1.kept (fun g g1 g2 g3=>hb g g1 (by omega) g3),h2.kept (fun g g1 g2 g3=>hb g (by omega) g2 g3)⟩
theorem Own.below {w w':World} {B C:Nat} {vp vi vc:Value} {d:DeskD} (h:Own w B C vp vi vc d) (hb:Below w.heap.size w w'):Own w' B C vp vi vc d:=h.kept (fun g _ _ hg=>hb.block g hg)
theorem Own.mono {w:World} {B B' C C':Nat} {vp vi vc:Value} {d:DeskD} (h:Own w B C vp vi vc d) (hB:B'≤B) (hC:C≤C'):Own w B' C' vp vi vc d:=by
 obtain ⟨M,b1,b2,h1,h2⟩:=h.ex
 exact ⟨M,by omega,by omega,h1.mono hB (Nat.le_refl _),h2.mono (Nat.le_refl _) hC⟩
set_option maxRecDepth 100000 in
set_option maxHeartbeats 2000000 in
theorem sz (B:Nat) (d:DeskD) (vp vi vc:Value) (n:Int) (w:World) (h0:0≤n) (hn:n≤1048576) (hk:Ok d) (ha:At w B vp vi vc d):
    Calls Tryz.prog 35 #[.agg #[vp,vi,.int .i64 d.eng.now,vc],.int .i64 n] w fun z w'=>(∃x:Int,z=.returned (.int .i64 x)∧-1≤x∧x≤n∧(0≤x→Small n d))∧Below w.heap.size w w':=by
 obtain ⟨⟨a1,k1,rfl⟩,⟨a2,k2,rfl⟩,a3,k3,rfl⟩:=ha.slices
 obtain ⟨w0,e0⟩:∃w0,w0=w.alloc (.cells #[.slice a1 d.eng.procs.length k1,.slice a2 d.eng.insts.length k2,.int .i64 d.eng.now,.slice a3 d.claims.length k3] 50):=⟨_,rfl⟩
 have hb0:Below w.heap.size w w0:=by rw [e0];exact (Below.refl _ w).alloc (Nat.le_refl _) _
 have hc:w0.heap[w.heap.size]?=some (.cells #[.slice a1 d.eng.procs.length k1,.slice a2 d.eng.insts.length k2,.int .i64 d.eng.now,.slice a3 d.claims.length k3] 50):=by rw [e0];exact new_blk _ _
 have HB:=hid hb0
 have HK:=hid hk
 have HA:=hid (ha.below hb0)
 have HZ:=hid (En.sz B d.eng _ _ n w0 h0 hn hk.eng HA.out.eng)
 clear ha hk hb0
 go_enter Tryz.func35,Tryz.ntmps35
 go_wp2_with fail
 rw [←e0]
 clear e0
 refine HZ.out.mono ?_
 rintro z w1 ⟨⟨x1,rfl,p1,p2,p3⟩,hb1⟩
 have HB1:=hid (HB.out.trans (hb1.mono HB.out.size))
 have HA1:=hid (HA.out.below hb1)
 have hc1:=(hb1.block _ (blk_lt hc)).trans hc
 clear hb1 HB HA hc HZ
 by_cases q1:x1<0
 ·clear hc1
  go_wp2
  go_ret
  exact ⟨⟨-1,rfl,by omega,by omega,by omega⟩,HB1.out⟩
 have P3:=hid (p3 (by omega))
 have c3:w1.cell? ⟨w.heap.size,3,none⟩=some (.slice a3 d.claims.length k3):=by rw [blk_cell hc1];rfl
 have l1:=blk_lt hc1
 have HZ2:=hid (Cl.szS d.claims _ x1 B w1 (by omega) (by omega) HK.out.nc HA1.out.claims)
 clear p3 hc1
 go_wp2_with fail
 refine HZ2.out.mono ?_
 rintro z w2 ⟨⟨x2,rfl,s1,s2,s3⟩,rfl⟩
 clear c3 l1
 by_cases q2:x2<0
 ·go_wp2
  go_ret
  exact ⟨⟨-1,rfl,by omega,by omega,by omega⟩,HB1.out⟩
 have S3:=hid (s3 (by omega))
 clear s3
 go_wp2
 go_ret
 exact ⟨⟨x2,rfl,by omega,by omega,fun _=>⟨P3.out,by have:=S3.out;omega⟩⟩,HB1.out⟩
theorem cellsR:Tryz.prog.cellsOf 50=4:=by kernel_rfl
theorem cellsE:Tryz.prog.cellsOf 47=3:=by kernel_rfl
theorem cellsC:Tryz.prog.cellsOf 48=1:=by kernel_rfl
set_option maxRecDepth 100000 in
theorem open_all {H:Type} {enc:TypeId × Value→H} {w:World} {base:Nat} {spare:Nat→Bool} {held:Bool} {fuel:Nat} {cs:List Value} {x:DataW H × List MemPlace} (h:DataW.trod enc Tryz.prog w base spare held fuel 50 cs=some x):
    ∃(d:DeskD) (vp vi vc:Value),cs=[vp,vi,.int .i64 d.eng.now,vc]∧At w 0 vp vi vc d∧Ok d:=by
 obtain ⟨xs,n,rfl,_,hlen,hxl,hf⟩:=DataW.trod_struct Tryz.underlying50 h
 have h0:=hf 0 _ rfl
 have h1:=hf 1 _ rfl
 rw [cellsR] at hlen
 match cs,hlen with
 | [a,b,c,e],_=>
  match xs,hxl with
  | [x0,x1],_=>
   simp [cellsE,cellsC] at h0 h1
   obtain ⟨g,vp,vi,e1,p1,p2⟩:=En.open_all h0
   obtain ⟨cl,i1,i2⟩:=Cl.open_all h1
   cases e1
   exact ⟨⟨g,cl⟩,_,_,_,rfl,⟨p1,i1⟩,⟨p2,i2⟩⟩
end Dk
end Go.Proofs.YtccklgopcjilcaaGreatDoor
/- The program's tree in memory: a row of branches, each with a row of its kids; what a store, a new kid and a new branch leave of it. -/
namespace Go.Proofs.YtccklgopcjilcaaGreatDoor
open Go.RowKit
set_option linter.unusedVariables false
namespace Pt
open Ex (hid)
open Nd (NodeD)
open St (StepD)
open Tr (Chain cutTo onPath top)
structure Br where
 kind:Int
 par:Int
 name:ByteArray
 arg:Int
 vc:Value
 ve:Value
 deep:Nat
 kv:Value
 kids:List Nat
def Br.cells (b:Br):List Value:=[.int .i64 b.kind,.int .i64 b.par,.string b.name,.int .i64 b.arg,b.vc,b.ve,.int .i64 b.par,.int .i64 b.deep,b.kv]
def kidVals (l:List Nat):List Value:=l.map fun (i:Nat)=>.int .i64 (i:Int)
def flat (f:Nat→List Value) (n:Nat):List Value:=(List.range n).flatMap f
theorem flat_succ (f:Nat→List Value) (n:Nat):flat f (n+1)=flat f n++f n:=by simp [flat,List.range_succ]
theorem flat_len {f:Nat→List Value} (h:∀j,(f j).length=9):∀n,(flat f n).length=n*9
 | 0=>rfl
 | n+1=>by rw [flat_succ,List.length_append,flat_len h n,h n];omega
theorem flat_get {f:Nat→List Value} (h:∀j,(f j).length=9):∀ {n j c:Nat},j<n→c<9→(flat f n)[j*9+c]?=(f j)[c]?
 | 0,j,c,hj,_=>by omega
 | n+1,j,c,hj,hc=>by
  rw [flat_succ]
  by_cases e:j=n
  ·subst e
   rw [List.getElem?_append_right (by rw [flat_len h];omega),flat_len h,Nat.add_sub_cancel_left]
  ·rw [List.getElem?_append_left (by rw [flat_len h];omega)]
   exact flat_get h (by omega) hc
theorem flat_congr {f g:Nat→List Value}:∀ {n:Nat},(∀j,j<n→f j=g j)→flat f n=flat g n
 | 0,_=>rfl
 | n+1,h=>by rw [flat_succ,flat_succ,h n (by omega),flat_congr (fun j hj=>h j (by omega))]
theorem flat_set {f:Nat→List Value} (h:∀j,(f j).length=9) {n j c:Nat} (hj:j<n) (hc:c<9) (u:Value):
    (flat f n).set (j*9+c) u=flat (fun i=>if i=j then (f j).set c u else f i) n:=by
 induction n with
 | zero=>omega
 | succ n ih=>
  rw [flat_succ,flat_succ]
  by_cases e:j=n
  ·subst e
   rw [List.set_append_right _ _ (by rw [flat_len h];omega),flat_len h,Nat.add_sub_cancel_left,if_pos rfl]
   congr 1
   exact flat_congr (fun i hi=>by rw [if_neg (by omega)])
  ·rw [List.set_append_left _ _ (by rw [flat_len h];omega),ih (by omega),if_neg (by omega)]
theorem cells_len (b:Br):b.cells.length=9:=rfl
def own (v:Value) (b:Nat):Prop:=v.ownBlock=some b
structure TreeAt (w:World) (B:Nat) (v:Value) (n:Nat) (T:Nat→Br):Prop where
 row:w.ownsRow B 262 9 v n (flat (fun j=>(T j).cells) n)
 kids:∀j,j<n→w.ownsRow B 2 1 (T j).kv (T j).kids.length (kidVals (T j).kids)
 sep:∀i j,i<n→j<n→i≠j→∀b,own (T i).kv b→¬own (T j).kv b
 sepv:∀j,j<n→∀b,own (T j).kv b→¬own v b
 lens:∀j,j<n→(T j).kids.length≤n
def Off (v:Value) (n:Nat) (T:Nat→Br) (b:Nat):Prop:=¬own v b∧∀j,j<n→¬own (T j).kv b
theorem own_lt {w:World} {B:Nat} {e:TypeId} {size n b:Nat} {v:Value} {xs:List Value} (h:w.ownsRow B e size v n xs) (hb:own v b):B≤b∧b<w.heap.size:=by
 rcases h.2 with ⟨rfl,_⟩ | ⟨g,cap,cur,rfl,hbg,hg,_⟩
 ·simp [own,Value.ownBlock] at hb
 ·obtain rfl:g=b:=by simpa [own,Value.ownBlock] using hb
  exact ⟨hbg,(Array.getElem?_eq_some_iff.1 hg).1⟩
theorem TreeAt.kept {w w':World} {B:Nat} {v:Value} {n:Nat} {T:Nat→Br} (h:TreeAt w B v n T) (hos:w'.os=w.os) (htape:w'.tape=w.tape) (hout:w'.output=w.output) (hsz:w.heap.size≤w'.heap.size) (hb:∀g,g<w.heap.size→B≤g→w'.heap[g]?=w.heap[g]?):TreeAt w' B v n T:=by
 have keep:∀ {e:TypeId} {size m:Nat} {u:Value} {xs:List Value},w.ownsRow B e size u m xs→w'.ownsRow B e size u m xs:=fun {e size m u xs} h=>by
  refine ⟨h.1,?_⟩
  rcases h.2 with hn | ⟨g,cap,cur,rfl,hbg,hg,rest⟩
  ·exact .inl hn
  ·exact .inr ⟨g,cap,cur,rfl,hbg,by rw [hb g (Array.getElem?_eq_some_iff.1 hg).1 hbg];exact hg,rest⟩
 exact ⟨keep h.row,fun j hj=>keep (h.kids j hj),h.sep,h.sepv,h.lens⟩
theorem TreeAt.below {w w':World} {B:Nat} {v:Value} {n:Nat} {T:Nat→Br} (h:TreeAt w B v n T) (hb:Below w.heap.size w w'):TreeAt w' B v n T:=
 h.kept hb.os hb.tape hb.output hb.size (fun g hg _=>hb.block g hg)
theorem TreeAt.nil (w:World) (B:Nat) (T:Nat→Br):TreeAt w B (.slice none 0 0) 0 T:=
 ⟨World.ownsRow_nil w B _ 9,fun j h=>by omega,fun i j h=>by omega,fun j h=>by omega,fun j h=>by omega⟩
theorem TreeAt.slice {w:World} {B:Nat} {v:Value} {n:Nat} {T:Nat→Br} (h:TreeAt w B v n T):∃a cap,v=.slice a n cap:=by
 rcases h.row.2 with ⟨rfl,rfl⟩ | ⟨g,cap,cur,rfl,_⟩
 ·exact ⟨_,_,rfl⟩
 ·exact ⟨_,_,rfl⟩
theorem TreeAt.at {w:World} {B:Nat} {a:Option Addr} {m cap n:Nat} {T:Nat→Br} (h:TreeAt w B (.slice a m cap) n T) {j:Nat} (hj:j<n):
    ∃g,a=some ⟨g,0,none⟩∧m=n∧B≤g∧g<w.heap.size∧w.cell? ⟨g,j*9,none⟩=some (.int .i64 (T j).kind)∧w.cell? ⟨g,j*9+1,none⟩=some (.int .i64 (T j).par)∧w.cell? ⟨g,j*9+2,none⟩=some (.string (T j).name)∧w.cell? ⟨g,j*9+3,none⟩=some (.int .i64 (T j).arg)∧w.cell? ⟨g,j*9+4,none⟩=some (T j).vc∧w.cell? ⟨g,j*9+5,none⟩=some (T j).ve∧
     w.cell? ⟨g,j*9+6,none⟩=some (.int .i64 (T j).par)∧w.cell? ⟨g,j*9+7,none⟩=some (.int .i64 (T j).deep)∧w.cell? ⟨g,j*9+8,none⟩=some (T j).kv∧∀c,w.frozen? ⟨g,c,none⟩=false:=by
 rcases h.row.2 with ⟨_,h0⟩ | ⟨g,cap',cur,hv,hbg,hg,hle,hm,hs,ht⟩
 ·omega
 ·simp only [Value.slice.injEq] at hv
  obtain ⟨rfl,rfl,rfl⟩:=hv
  have hget:∀c,c<9→w.cell? ⟨g,j*9+c,none⟩=(T j).cells[c]?:=fun c hc=>by
   have h2:=flat_get (f:=fun j=>(T j).cells) (fun j=>cells_len _) hj hc
   rw [←ht,List.getElem?_take,if_pos (by omega)] at h2
   simp only [World.cell?,hg,Option.isSome_none,Bool.false_eq_true,if_false]
   simpa using h2
  refine ⟨g,rfl,rfl,hbg,(Array.getElem?_eq_some_iff.1 hg).1,hget 0 (by omega),hget 1 (by omega),hget 2 (by omega),hget 3 (by omega),hget 4 (by omega),hget 5 (by omega),hget 6 (by omega),hget 7 (by omega),hget 8 (by omega),fun c=>?_⟩
  simp [World.frozen?,hg]
theorem TreeAt.kid {w1 w2:World} {B g m cap n p q:Nat} {T:Nat→Br} {kv:Value} (h:TreeAt w1 B (.slice (some ⟨g,0,none⟩) m cap) n T) (hp:p<n) (hq:(T p).kids.length+1≤n)
    (hown:w2.ownsRow B 2 1 kv ((T p).kids.length+1) (kidVals (T p).kids++[.int .i64 (q:Int)])) (hg:w1.grownBy w2 (T p).kv.ownBlock) (hat:kv.ownBlock=(T p).kv.ownBlock∨kv.ownBlock=some w1.heap.size):
    TreeAt (w2.setCell ⟨g,p*9+8,none⟩ kv) B (.slice (some ⟨g,0,none⟩) m cap) n (fun j=>if j=p then { T p with kv:=kv,kids:=(T p).kids++[q] } else T j):=by
 have hgb:own (.slice (some ⟨g,0,none⟩) m cap) g:=rfl
 have hgl:=own_lt h.row hgb
 have hvp:∀b,own (T p).kv b→b≠g:=fun b hb e=>h.sepv p hp b hb (by rw [e];exact hgb)
 have hkv:∀b,own kv b→own (T p).kv b∨b=w1.heap.size:=fun b hb=>by
  rcases hat with e | e
  ·exact .inl (by unfold own;rw [←e];exact hb)
  ·right;unfold own at hb;rw [e] at hb;exact (Option.some.inj hb).symm
 have hrow2:w2.ownsRow B 262 9 (.slice (some ⟨g,0,none⟩) m cap) n (flat (fun j=>(T j).cells) n):=h.row.kept hg (.inr (fun e=>by
  have:own (T p).kv g:=e.symm
  exact hvp g this rfl))
 have hmn:m=n:=by
  rcases h.row.2 with ⟨e,_⟩ | ⟨_,_,_,e,_⟩
  ·cases e
  ·cases e;rfl
 subst hmn
 have hst:=(hrow2.stored (p*9+8) kv).1
 rw [flat_set (fun j=>cells_len _) hp (by omega)] at hst
 have heq:flat (fun i=>if i=p then (T p).cells.set 8 kv else (T i).cells) m=flat (fun j=>(if j=p then { T p with kv:=kv,kids:=(T p).kids++[q] } else T j).cells) m:=by
  refine flat_congr (fun j hj=>?_)
  by_cases e:j=p
  ·simp only [e,if_true];rfl
  ·simp only [e,if_false]
 rw [heq] at hst
 refine ⟨hst,fun j hj=>?_,fun i j hi hj hij b=>?_,fun j hj b=>?_,fun j hj=>?_⟩
 ·by_cases e:j=p
  ·subst e
   simp only [if_true]
   have h2:w2.ownsRow B 2 1 kv ((T j).kids++[q]).length (kidVals ((T j).kids++[q])):=by simpa [kidVals] using hown
   refine h2.kept (hrow2.stored (j*9+8) kv).2 (.inr (fun e=>?_))
   rcases hkv g e with h3 | h3
   ·exact hvp g h3 rfl
   ·omega
  ·simp only [e,if_false]
   have h2:w2.ownsRow B 2 1 (T j).kv (T j).kids.length (kidVals (T j).kids):=(h.kids j hj).kept hg (by
    cases hb:(T j).kv.ownBlock with
    | none=>exact .inl rfl
    | some b=>exact .inr (fun e2=>h.sep j p hj hp e b hb e2.symm))
   refine h2.kept (hrow2.stored (p*9+8) kv).2 (.inr (fun e2=>h.sepv j hj g e2 hgb))
 ·by_cases e1:i=p
  ·subst e1
   have e2:j≠i:=fun e=>hij e.symm
   simp only [if_true,e2,if_false]
   intro hb hj2
   rcases hkv b hb with h3 | h3
   ·exact h.sep i j hi hj hij b h3 hj2
   ·have:=(own_lt (h.kids j hj) hj2).2
    omega
  ·by_cases e2:j=p
   ·subst e2
    simp only [e1,if_false,if_true]
    intro hb hj2
    rcases hkv b hj2 with h3 | h3
    ·exact h.sep i j hi hj hij b hb h3
    ·have:=(own_lt (h.kids i hi) hb).2
     omega
   ·simp only [e1,e2,if_false]
    exact h.sep i j hi hj hij b
 ·by_cases e:j=p
  ·subst e
   simp only [if_true]
   intro hb hv
   obtain rfl:g=b:=by simpa [own,Value.ownBlock] using hv
   rcases hkv g hb with h3 | h3
   ·exact hvp g h3 rfl
   ·omega
  ·simp only [e,if_false]
   exact h.sepv j hj b
 ·by_cases e:j=p
  ·subst e
   simp only [if_true,List.length_append,List.length_cons,List.length_nil]
   omega
  ·simp only [e,if_false]
   exact h.lens j hj
theorem TreeAt.push {w1 w2:World} {B n:Nat} {v v':Value} {T:Nat→Br} {b:Br} (h:TreeAt w1 B v n T) (hk:b.kv=.slice none 0 0) (hk2:b.kids=[])
    (hown:w2.ownsRow B 262 9 v' (n+1) (flat (fun j=>(T j).cells) n++b.cells)) (hg:w1.grownBy w2 v.ownBlock) (hat:v'.ownBlock=v.ownBlock∨v'.ownBlock=some w1.heap.size):
    TreeAt w2 B v' (n+1) (fun j=>if j=n then b else T j):=by
 have hv':∀c,own v' c→own v c∨c=w1.heap.size:=fun c hc=>by
  rcases hat with e | e
  ·exact .inl (by unfold own;rw [←e];exact hc)
  ·right;unfold own at hc;rw [e] at hc;exact (Option.some.inj hc).symm
 have hb0:∀c,¬own b.kv c:=fun c e=>by rw [hk] at e;simp [own,Value.ownBlock] at e
 refine ⟨?_,fun j hj=>?_,fun i j hi hj hij c=>?_,fun j hj c=>?_,fun j hj=>?_⟩
 ·rw [flat_succ,if_pos rfl,flat_congr (g:=fun j=>(T j).cells) (fun j hj=>by rw [if_neg (by omega)])]
  exact hown
 ·by_cases e:j=n
  ·simp only [e,if_true,hk,hk2]
   exact World.ownsRow_nil _ _ _ _
  ·simp only [e,if_false]
   refine (h.kids j (by omega)).kept hg ?_
   cases hb:(T j).kv.ownBlock with
   | none=>exact .inl rfl
   | some c=>exact .inr (fun e2=>h.sepv j (by omega) c hb e2.symm)
 ·by_cases e1:i=n
  ·simp only [e1,if_true]
   exact fun hc=>absurd hc (hb0 c)
  ·by_cases e2:j=n
   ·simp only [e1,e2,if_false,if_true]
    exact fun _ hc=>hb0 c hc
   ·simp only [e1,e2,if_false]
    exact h.sep i j (by omega) (by omega) hij c
 ·by_cases e:j=n
  ·simp only [e,if_true]
   exact fun hc=>absurd hc (hb0 c)
  ·simp only [e,if_false]
   intro hc hv
   rcases hv' c hv with h3 | h3
   ·exact h.sepv j (by omega) c hc h3
   ·have:=(own_lt (h.kids j (by omega)) hc).2
    omega
 ·by_cases e:j=n
  ·simp only [e,if_true,hk2];exact Nat.zero_le _
  ·simp only [e,if_false]
   have:=h.lens j (by omega)
   omega
end Pt
end Go.Proofs.YtccklgopcjilcaaGreatDoor
/- A branch put behind all others, as the program does it. -/
namespace Go.Proofs.YtccklgopcjilcaaGreatDoor
open Go.RowKit
set_option linter.unusedVariables false
namespace Pt
open Ex (hid)
open Nd (NodeD)
open St (StepD)
open Tr (Chain cutTo onPath top ElemD cut_yes cut_no onPath_cons top_lt top_ge chain_tail on_lt)
theorem chain_get {es:List ElemD} {a:Nat} {r:List Nat} (h:Chain es (a :: r)):∃h1:a<es.length,es[a].parent=top r:=by
 obtain ⟨⟨e,he,hp⟩,_,_⟩:=h
 obtain ⟨h1,h2⟩:=List.getElem?_eq_some_iff.1 he
 exact ⟨h1,by rw [h2];exact hp⟩
def DeepOn (T:Nat→Br):List Nat→Prop
 | []=>True
 | a :: r=>(T a).deep=r.length+1∧DeepOn T r
theorem deep_cut {T:Nat→Br} {p:Int}:∀ {S:List Nat},DeepOn T S→DeepOn T (cutTo p S)
 | [],_=>trivial
 | a :: r,h=>by
  unfold cutTo
  split
  ·exact h
  ·exact deep_cut h.2
theorem cut_cons {p:Int}:∀ {S:List Nat},onPath p S=true→∃a r,cutTo p S=a :: r∧(a:Int)=p
 | [],h=>by simp [onPath] at h
 | a :: r,h=>by
  by_cases e:(a:Int)=p
  ·exact ⟨a,r,cut_yes e,e⟩
  ·rw [cut_no e]
   exact cut_cons (by rw [onPath_cons] at h;simpa [e] using h)
theorem deep_at {T:Nat→Br} {p:Int} {S:List Nat} (h:DeepOn T S) (hp:onPath p S=true):(T p.toNat).deep=(cutTo p S).length:=by
 obtain ⟨a,r,e,ea⟩:=cut_cons hp
 have h2:=deep_cut (p:=p) h
 rw [e] at h2 ⊢
 have:p.toNat=a:=by omega
 rw [this]
 exact h2.1
theorem deep_congr {T T':Nat→Br} {n:Nat} {es:List ElemD} (hT:∀j,j<n→(T' j).deep=(T j).deep):∀ {S:List Nat},Chain es S→top S<n→DeepOn T S→DeepOn T' S
 | [],_,_,_=>trivial
 | a :: r,hc,hn,h=>by
  have ha:(a:Int)<n:=hn
  have:=top_lt hc
  exact ⟨by rw [hT a (by omega)];exact h.1,deep_congr hT hc.2.2 (by omega) h.2⟩
def pfault (n:Nat) (S:List Nat) (p:Int):Int:=if n=0 then (if p=-1 then 0 else 3) else if 0≤p∧p<n then (if onPath p S then 0 else 1) else 3
set_option maxRecDepth 100000 in
set_option maxHeartbeats 400000 in
theorem hasPlace (a:Option Addr) (n cap:Nat) (p:Int) (w:World) (hn:n≤1048576):
    Calls Tryz.prog 253 #[.slice a n cap,.int .i64 p] w fun e w'=>e=.returned (.bool (decide (0≤p)&&decide (p<n)))∧w'=w:=by
 by_cases h1:0≤p
 ·by_cases h2:p<(n:Int)
  ·have HV:Hid ((decide (0≤p)&&decide (p<n))=true):=hid (by simp [h1,h2])
   go_enter Tryz.func253,Tryz.ntmps253
   go_wp2
   go_ret
   exact ⟨by simp [h1,h2],rfl⟩
  ·go_enter Tryz.func253,Tryz.ntmps253
   go_wp2
   go_ret
   exact ⟨by simp;omega,rfl⟩
 ·go_enter Tryz.func253,Tryz.ntmps253
  go_wp2
  go_ret
  exact ⟨by simp;omega,rfl⟩
set_option maxRecDepth 100000 in
set_option maxHeartbeats 2000000 in
theorem parentFault (es:List ElemD) (T:Nat→Br) (S:List Nat) (B:Nat) (v:Value) (n:Nat) (p:Int) (w:World) (hn:n≤1048576) (hle:n≤es.length) (ht:TreeAt w B v n T)
    (hT:∀j (h:j<es.length),j<n→(T j).par=es[j].parent) (hc:Chain es S) (h1:top S=(n:Int) - 1):
    Calls Tryz.prog 232 #[v,.int .i64 p] w fun e w'=>e=.returned (.int .i64 (pfault n S p))∧w'=w:=by
 obtain ⟨a,cap,rfl⟩:=ht.slice
 have HT:=hid ht
 have HP:=hid hT
 have HC:=hid hc
 have H1:=hid h1
 have HH:=hid (hasPlace a n cap p w hn)
 clear ht hT hc h1
 by_cases h0:n=0
 ·by_cases hp:p=-1
  ·have HV:Hid (pfault n S p=0):=hid (by unfold pfault;rw [if_pos h0,if_pos hp])
   have b0:((n:Int)==0)=true:=beq_iff_eq.2 (by omega)
   have b1:(p != -1)=false:=by simp [hp]
   clear h0 hp
   go_enter Tryz.func232,Tryz.ntmps232
   go_wp2
   go_ret
   exact ⟨by rw [HV.out];rfl,rfl⟩
  ·have HV:Hid (pfault n S p=3):=hid (by unfold pfault;rw [if_pos h0,if_neg hp])
   have b0:((n:Int)==0)=true:=beq_iff_eq.2 (by omega)
   have b1:(p != -1)=true:=bne_iff_ne.2 hp
   clear h0 hp
   go_enter Tryz.func232,Tryz.ntmps232
   go_wp2
   go_ret
   exact ⟨by rw [HV.out];rfl,rfl⟩
 have b0:((n:Int)==0)=false:=beq_eq_false_iff_ne.2 (by omega)
 by_cases hp:0≤p∧p<(n:Int)
 ·have HV:Hid (pfault n S p=if onPath p S then 0 else 1):=hid (by unfold pfault;rw [if_neg h0,if_pos hp])
  have e1:(decide (0≤p)&&decide (p<n))=true:=by simp [hp.1,hp.2]
  rw [e1] at HH
  have hp1:=hp.1
  have hp2:=hp.2
  clear hp e1 h0
  go_enter Tryz.func232,Tryz.ntmps232
  go_wp2_with (go_at_call 253;refine HH.out.mono ?_;rintro e w' ⟨rfl,rfl⟩)
  go_loop [5] (fun x=>∃S':List Nat,x=.int .i64 (top S')∧top S'<n∧Hid (Chain es S'∧onPath p S=onPath p S')) (fun x=>(intOf x+1).toNat)
  case atStart=>exact ⟨S,by rw [H1.out],by rw [H1.out];omega,HC.out,rfl⟩
  case round=>
   obtain ⟨S',rfl,htn,HS⟩:=hrel
   have htg0:=top_ge S'
   cases S' with
   | nil=>
    have HX:Hid (onPath p S=false):=hid (by rw [HS.out.2];rfl)
    have q2:¬p<top []:=by show ¬p < -1;omega
    have q3:(top [] != p)=true:=bne_iff_ne.2 (by show ((-1:Int))≠p;omega)
    go_wp2
    go_ret
    exact ⟨by rw [HV.out,HX.out];rfl,rfl⟩
   | cons x r=>
    obtain ⟨hx,hpx⟩:=chain_get HS.out.1
    have htl:=top_lt HS.out.1
    have htg:=top_ge r
    have ht:top (x :: r)=(x:Int):=rfl
    rw [ht] at htn ⊢
    have hxn:x<n:=by omega
    by_cases hgt:p<(x:Int)
    ·have HX:Hid (Chain es r∧onPath p S=onPath p r):=hid ⟨chain_tail HS.out.1,by
      rw [HS.out.2,onPath_cons]
      have:¬((x:Int)=p):=by omega
      simp [this]⟩
     obtain ⟨g,rfl,_,hB,hg,c0,c1,c2,c3,c4,c5,c6,c7,c8,_⟩:=HT.out.at hxn
     rw [HP.out x hx hxn,hpx] at c6
     clear c0 c1 c2 c3 c4 c5 c7 c8
     have q3:(x:Int)<(n:Int):=by omega
     go_wp2
     exact ⟨⟨r,rfl,by omega,HX⟩,by simp [intOf];omega⟩
    ·by_cases he:(x:Int)=p
     ·have HX:Hid (onPath p S=true):=hid (by rw [HS.out.2,onPath_cons];simp [he])
      have q3:((x:Int) != p)=false:=by simp [he]
      clear he
      go_wp2
      go_ret
      exact ⟨by rw [HV.out,HX.out];rfl,rfl⟩
     ·have HX:Hid (onPath p S=false):=hid (by
       rw [HS.out.2]
       cases hb:onPath p (x :: r)
       ·rfl
       ·have h3:=on_lt HS.out.1 hb
        have h4:top (x :: r)=(x:Int):=rfl
        omega)
      have q3:((x:Int) != p)=true:=bne_iff_ne.2 he
      clear he
      go_wp2
      go_ret
      exact ⟨by rw [HV.out,HX.out];rfl,rfl⟩
 ·have HV:Hid (pfault n S p=3):=hid (by unfold pfault;rw [if_neg h0,if_neg hp])
  have e1:(decide (0≤p)&&decide (p<n))=false:=by
   rw [←Bool.not_eq_true];intro e;apply hp;simpa using e
  rw [e1] at HH
  clear hp e1 h0
  go_enter Tryz.func232,Tryz.ntmps232
  go_wp2_with (go_at_call 253;refine HH.out.mono ?_;rintro e w' ⟨rfl,rfl⟩)
  go_ret
  exact ⟨by rw [HV.out];rfl,rfl⟩
end Pt
end Go.Proofs.YtccklgopcjilcaaGreatDoor
