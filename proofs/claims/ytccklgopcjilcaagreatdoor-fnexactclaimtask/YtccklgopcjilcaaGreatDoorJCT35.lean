/- Laid together: DmW, DsL, Nst, NdX. -/
import Derived.Test.YtccklgopcjilcaaGreatDoorJCT34
import Derived.Test.YtccklgopcjilcaaGreatDoorJCT28
import Derived.Sort.MapsRangeIn
import Derived.Maps.RangeWalk
import Derived.Test.YtccklgopcjilcaaGreatDoorProg
import Derived.WalkKit
import Derived.Below
import Derived.Laws.AppendOwn
import Derived.Laws.OwnMore
import Derived.Test.YtccklgopcjilcaaGreatDoorJCT1
import Derived.ProofKit
import Derived.Deep.SlicePairs
/- Who asks for a task that he holds: the program's claimsHeldBy. -/
namespace Go.Proofs.YtccklgopcjilcaaGreatDoor
open Go.RowKit Go.Deep
set_option linter.unusedVariables false
set_option linter.unusedSimpArgs false
namespace Dk
open En (EngD)
open Cl (ClD)
open Eg (engC)
open Ex (hid)
open Pf (Rul)
open Of (who who_or)
open Ch (blk_cell blk_lt new_blk new_at)
def heldC (d:DeskD) (u i s:Int):Int:=if askC d u i s≠0 then askC d u i s else if who d.claims i s=u then 0 else 10
theorem held_ask {d:DeskD} {u i s:Int} (h:askC d u i s≠0):heldC d u i s=askC d u i s:=by unfold heldC;rw [if_pos h]
theorem held_user {d:DeskD} {u i s:Int} (h:askC d u i s=0) (h2:¬who d.claims i s=u):heldC d u i s=10:=by unfold heldC;rw [if_neg (by simp [h]),if_neg h2]
theorem of_held {d:DeskD} {u i s:Int} (h:heldC d u i s=0):askC d u i s=0∧who d.claims i s=u:=by
 by_cases h1:askC d u i s=0
 ·by_cases h2:who d.claims i s=u
  ·exact ⟨h1,h2⟩
  ·rw [held_user h1 h2] at h;cases h
 ·rw [held_ask h1] at h;exact absurd h h1
theorem rg_ask {d:DeskD} {u i s:Int} (hs:Small 1048576 d) (h:askC d u i s=0):Mp.Rg (i,s):=by
 obtain ⟨h1,_,h3,h4⟩:=of_ask h
 have:=open_len hs.eng (of_d h1).1 h3 h4
 unfold Mp.Rg;dsimp only;omega
theorem look {d:DeskD} {i s:Int} {w:World} {M:Nat} (h:Mp.At w M (ents d.claims)) (hr:Mp.Rg (i,s)):
    (Instr.lookup 149 (.map (some M)) (.agg #[.int .i64 i,.int .i64 s]) false).run Tryz.prog w=.ok (.int .i64 (who d.claims i s)) w:=by
 have e:Value.agg #[.int .i64 i,.int .i64 s]=Mp.kv (i,s):=rfl
 rw [e]
 clear e
 rcases who_or d.claims i s with h1 | ⟨h1,h2⟩
 ·have:=Mp.At.get (p:=(i,s)) h h1
  exact this
 ·rw [h2]
  have:=Mp.At.getno (p:=(i,s)) h hr h1
  exact this
end Dk
end Go.Proofs.YtccklgopcjilcaaGreatDoor
/- The claims of a table, listed in order: (claimTable).list. -/
namespace Go.Proofs.YtccklgopcjilcaaGreatDoor
open Go.RowKit Go.Deep
set_option linter.unusedVariables false
set_option linter.unusedSimpArgs false
namespace Ds
open Go.ChangeMaps (setBlock heap_setBlock_same heap_setBlock_other)
open Go.MapKept (Stamped)
open Ex (hid)
open Cl (ClD)
open Mp (kv)
open Of (cv cvals COwn own_snoc row_three)
open Dk (ents ent)
open Ch (blk_cell blk_lt)
theorem heap_walk {w w1:World} {r:Nat} {o o':Obj} (hr:w.heap[r]?=some o) (ho:o.isWalk=true) (h:w1=w∨w1=w.drew):w.grownBy (setBlock w1 r o') (some r)∧(setBlock w1 r o').heap[r]?=some o'∧(∀k,k≠r→(setBlock w1 r o').heap[k]?=w.heap[k]?):=by
 have hl:=(Array.getElem?_eq_some_iff.1 hr).1
 have hh:(setBlock w1 r o').heap=w.heap.setIfInBounds r o':=by rcases h with rfl | rfl <;> rfl
 have hk:∀k,k≠r→(setBlock w1 r o').heap[k]?=w.heap[k]?:=fun k hk=>by
  have:r≠k:=fun e=>hk e.symm
  rw [hh]
  simp [this]
 refine ⟨⟨by rcases h with rfl | rfl <;> rfl,by rcases h with rfl | rfl <;> rfl,by rcases h with rfl | rfl <;> rfl,by rw [hh];simp,fun k _ hne=>hk k (fun e=>hne (by rw [e]))⟩,by rw [hh];simp [hl],hk⟩
section
variable {P : Program} (w : World) {ops : Array Oper} {rest : List Oper} {o : Oper} {a : Act} {Q : Exit → Act → World → Prop}
theorem p_range (hg:o.guard=none) (m:Operand) (t k e:TypeId) (hop:o.op=Op.range t m) (ht:P.underlying t=some (.map k e)) {b clock:Nat} {es:Array MapEntry} (hm:a.eval m=.map (some b)) (hb:w.heap[b]?=some (.map es clock))
    (hK:wpList P ops Q rest (a.put o.dst (.pointer (some ⟨w.heap.size,0,none⟩))) (w.alloc (.mapIter (some b) clock #[] clock))):wpList P ops Q (o :: rest) a w:=by
 refine wpList_plain hg fun K' hK'=>?_
 have hrun:=run_range_map (P:=P) w t k e b es clock ht hb
 unfold Oper.wp
 simp [execOp,hop,hm,hrun,Result.andThen]
 exact hK' _ _ hK
theorem p_next (hg:o.guard=none) (it:Operand) (hop:o.op=Op.next it false) {r b since c0 clock:Nat} {seen:Array Nat} {es:Array MapEntry} (hit:a.eval it=.pointer (some ⟨r,0,none⟩)) (hr:w.heap[r]?=some (.mapIter (some b) since seen c0)) (hb:w.heap[b]?=some (.map es clock)) (hold:∀x∈es.toList,x.born<since) (hsc:since≤c0)
    (hDone:Hid ((leftOf es seen).size=0)→wpList P ops Q rest (a.put o.dst (.tuple #[.bool false])) w)
    (hMore:∀(e:MapEntry) (w':World),Hid (e∈(leftOf es seen).toList∧w.grownBy w' (some r)∧w'.heap[r]?=some (.mapIter (some b) since (seen.push e.born) clock)∧(∀k,k≠r→w'.heap[k]?=w.heap[k]?)∧w'.heap.size=w.heap.size)→wpList P ops Q rest (a.put o.dst (.tuple #[.bool true,e.key,e.val])) w'):wpList P ops Q (o :: rest) a w:=by
 refine wpList_plain hg fun K' hK'=>?_
 unfold Oper.wp
 rcases run_next_at (P:=P) w o.type r b since c0 seen es clock hr hb hold hsc with ⟨h0,hrun⟩ | ⟨e,he,w1,hal,hrun⟩
 ·simp [execOp,hop,hit,hrun,Result.andThen]
  exact hK' _ _ (hDone h0)
 ·simp [execOp,hop,hit,hrun,Result.andThen]
  have h3:=heap_walk hr rfl hal (o':=.mapIter (some b) since (seen.push e.born) clock)
  exact hK' _ _ (hMore e _ ⟨by simpa using he,h3.1,h3.2.1,h3.2.2,by
   have hh:∀o',(setBlock w1 r o').heap=w.heap.setIfInBounds r o':=fun o'=>by rcases hal with rfl | rfl <;> rfl
   rw [hh];simp⟩)
end
def unkv:Value→Int × Int
 | .agg cs=>match cs.toList with
  | [.int _ x,.int _ y]=>(x,y)
  | _=>(0,0)
 | _=>(0,0)
theorem un_kv (p:Int × Int):unkv (kv p)=p:=rfl
def uni:Value→Int
 | .int _ x=>x
 | _=>0
def clE (e:MapEntry):ClD:=⟨(unkv e.key).1,(unkv e.key).2,uni e.val⟩
theorem left0 (es:Array MapEntry):(leftOf es #[]).size+([]:List MapEntry).length≤es.toList.length:=by
 have:leftOf es #[]=es:=by
  unfold leftOf
  rw [Array.filter_eq_self]
  intro e _
  simp
 rw [this]
 simp
structure Came (es:Array MapEntry) (seen:Array Nat) (T:List MapEntry):Prop where
 sub:∀e∈T,e∈es.toList
 born:T.map (·.born)=seen.toList
 nd:(T.map (·.born)).Nodup
theorem Came.nil (es:Array MapEntry):Came es #[] []:=⟨(fun e h=>by cases h),rfl,List.nodup_nil⟩
theorem Came.step {es:Array MapEntry} {seen:Array Nat} {T:List MapEntry} (h:Came es seen T) {e:MapEntry} (he:e∈(leftOf es seen).toList):Came es (seen.push e.born) (T++[e]):=by
 obtain ⟨h1,h2⟩:=mem_left he
 refine ⟨fun x hx=>?_,by rw [List.map_append,h.born];simp,?_⟩
 ·rcases List.mem_append.1 hx with hx | hx
  ·exact h.sub x hx
  ·simp at hx;rw [hx];exact h1
 ·rw [List.map_append]
  refine List.nodup_append.2 ⟨h.nd,by simp,fun a ha b hb e2=>?_⟩
  have hb':b=e.born:=by simpa using hb
  rw [h.born,e2,hb'] at ha
  have:seen.contains e.born=true:=by simpa using ha
  rw [h2] at this
  cases this
theorem Came.perm {es:Array MapEntry} {seen:Array Nat} {T:List MapEntry} {clock:Nat} (h:Came es seen T) (hs:Stamped es clock) (h0:(leftOf es seen).size=0):T.Perm es.toList:=by
 have n1:T.Nodup:=(List.pairwise_map.1 h.nd).imp (fun hne e=>hne (by rw [e]))
 have n2:es.toList.Nodup:=(List.pairwise_map.1 hs.2.1).imp (fun hne e=>hne (by rw [e]))
 refine (List.perm_ext_iff_of_nodup n1 n2).2 (fun e=>⟨h.sub e,fun he=>?_⟩)
 have hc:=all_seen es seen h0 e he
 have hm:e.born∈T.map (·.born):=by rw [h.born];simpa using hc
 obtain ⟨e2,h2,h3⟩:=List.mem_map.1 hm
 have:e2=e:=born_inj hs.2.1 (h.sub e2 h2) he h3
 rw [←this]
 exact h2
def LPost (cs:List ClD) (w:World) (z:Ending) (w':World):Prop:=
 (∃v ss,z=.returned v∧ss.Perm cs∧ss.Pairwise (fun x y=>¬cmpC y x<0)∧COwn w' w.heap.size v ss)∧Below w.heap.size w w'
set_option maxRecDepth 100000 in
set_option maxHeartbeats 1600000 in
theorem insNil (w:World):Calls Tryz.prog 204 #[.slice none 0 0,.int .i64 0,.int .i64 0,.func (.func 137) #[] #[]] w fun e w'=>(∃r,e=.returned r)∧Hid (w'=w):=by
 go_enter Tryz.func204,Tryz.ntmps204
 go_wp2
 go_loopw [8] (fun x wr=>x=.int .i64 1∧Hid (wr=w)) (fun _ _=>0)
 case atStart=>exact ⟨rfl,hid rfl⟩
 case round=>
  obtain ⟨rfl,HW⟩:=hrel
  go_wp2
  go_end0
  exact ⟨⟨_,rfl⟩,HW⟩
set_option maxRecDepth 100000 in
set_option maxHeartbeats 1600000 in
theorem pdqNil (l:Int) (w:World):Calls Tryz.prog 173 #[.slice none 0 0,.int .i64 0,.int .i64 0,.int .i64 l,.func (.func 137) #[] #[]] w fun e w'=>(∃r,e=.returned r)∧Hid (w'=w):=by
 go_enter Tryz.func173,Tryz.ntmps173
 go_wp2
 go_loopw [1,2] (fun y z wr=>y=.int .i64 0∧z=.int .i64 0∧Hid (wr=w)) (fun _ _ _=>0)
 case atStart=>exact ⟨rfl,rfl,hid rfl⟩
 case round=>
  obtain ⟨rfl,rfl,HW⟩:=hrel
  go_wp2_with fail
  refine (insNil wr).mono ?_
  rintro e w1 ⟨⟨r,rfl⟩,hw⟩
  have HW1:=hid (hw.out.trans HW.out)
  clear hw HW
  go_wp2
  refine bodyPost_ret (results_none (by rfl) _ _ _) rfl ⟨⟨_,rfl⟩,HW1⟩
set_option maxRecDepth 100000 in
set_option maxHeartbeats 1600000 in
theorem lenZero (w:World):Calls Tryz.prog 174 #[.int .u64 0] w fun e w'=>(∃l:Int,e=.returned (.int .i64 l))∧Hid (w'=w):=by
 go_enter Tryz.func174,Tryz.ntmps174
 go_wp2
 go_ret
 exact ⟨⟨_,rfl⟩,hid rfl⟩
set_option maxRecDepth 100000 in
set_option maxHeartbeats 1600000 in
theorem sortNil (w:World):Calls Tryz.prog 136 #[.slice none 0 0,.func (.func 137) #[] #[]] w fun e w'=>(∃r,e=.returned r)∧Hid (w'=w):=by
 go_enter Tryz.func136,Tryz.ntmps136
 go_wp2_with fail
 refine (lenZero w).mono ?_
 rintro e w1 ⟨⟨l,rfl⟩,hw⟩
 obtain rfl:=hw.out
 go_wp2_with fail
 refine (pdqNil l w1).mono ?_
 rintro e w2 ⟨⟨r,rfl⟩,hw⟩
 go_wp2
 go_end0
 exact ⟨⟨_,rfl⟩,hw⟩
set_option maxRecDepth 100000 in
set_option maxHeartbeats 16000000 in
theorem implList (b:Nat) (cs:List ClD) (w:World) (hat:Mp.At w b (ents cs)) (hl:cs.length≤1048576):
    Calls Tryz.prog 89 #[.map (some b)] w (LPost cs w):=by
 have hlt:=hat.lt
 obtain ⟨es,clock,hb,hs,he,hr⟩:=hat
 have hlen:es.toList.length=cs.length:=by have:=congrArg List.length he;simpa [ents] using this
 have hcl:es.toList.map clE=cs:=by
  have h1:(es.toList.map (fun x=>(x.key,x.val))).map (fun p=>(⟨(unkv p.1).1,(unkv p.1).2,uni p.2⟩:ClD))=((ents cs).map (fun p=>(kv p.1,p.2))).map (fun p=>(⟨(unkv p.1).1,(unkv p.1).2,uni p.2⟩:ClD)):=by rw [he]
  simp only [List.map_map,Function.comp_def,ents,ent,un_kv] at h1
  refine h1.trans ?_
  conv=>rhs;rw [←List.map_id cs]
  exact List.map_congr_left (fun c _=>rfl)
 have hkv:∀e∈es.toList,e.key=.agg #[.int .i64 (clE e).inst,.int .i64 (clE e).step]∧e.val=.int .i64 (clE e).user:=fun e hm=>by
  have:(e.key,e.val)∈(ents cs).map (fun p=>(kv p.1,p.2)):=by rw [←he];exact List.mem_map.2 ⟨e,hm,rfl⟩
  obtain ⟨p,hp,e2⟩:=List.mem_map.1 this
  unfold ents at hp
  obtain ⟨c,_,rfl⟩:=List.mem_map.1 hp
  simp only [Prod.mk.injEq,ent] at e2
  obtain ⟨e3,e4⟩:=e2
  have h5:clE e=c:=by unfold clE;rw [←e3,←e4];rfl
  rw [h5,←e3,←e4]
  exact ⟨rfl,rfl⟩
 have ht:Tryz.prog.underlying 149=some (.map 147 2):=by kernel_rfl
 obtain ⟨i0,hi0,hz0,hz1,hz2⟩:=Ex.info_parts Cl.infoOne
 have HCL:=hid hcl
 have HKV:=hid hkv
 have HS:=hid hs
 have HLEN:=hid hlen
 clear he hr hcl hkv hlen
 go_enter Tryz.func89,Tryz.ntmps89
 go_wp2_with (first | (at_range;refine p_range _ rfl _ 149 _ _ rfl ht rfl hb ?_) | go_in)
 go_frame
 have hlb:∀ {o:Obj} {k:Nat},k<w.heap.size→(w.alloc o).heap[k]?=w.heap[k]?:=fun {o k} hk=>Below.heap_alloc w o k hk
 go_loopw [3] (fun y wr=>∃(seen:Array Nat) (c0:Nat) (T:List MapEntry) (L:List ClD) (v:Value),y=v∧wr.heap[w.heap.size]?=some (.mapIter (some b) clock seen c0)∧clock≤c0∧wr.heap[b]?=some (.map es clock)∧Hid (Came es seen T)∧(leftOf es seen).size+T.length≤es.toList.length∧Hid (L=T.map clE)∧Hid (COwn wr (w.heap.size+1) v L)∧Hid (Below w.heap.size w wr)∧w.heap.size+1≤wr.heap.size)
  (fun _ wr=>wr.rangeLeft b w.heap.size)
 case atStart=>exact ⟨#[],clock,[],[],_,rfl,heap_alloc_new w _,Nat.le_refl _,(hlb hlt).trans hb,hid (Came.nil es),left0 es,hid rfl,hid (COwn.nil _ _),hid ((Below.refl _ w).alloc (Nat.le_refl _) _),by simp⟩
 case round=>
  clear hlb
  obtain ⟨seen,c0,T,L,v,rfl,hr1,hc0,hb1,HC,hcnt,HT,HO,HB,hwz⟩:=hrel
  obtain ⟨va,vk,hv⟩:=HO.out.slice
  subst hv
  have HLT:Hid (L.length=T.length):=hid (by rw [HT.out,List.length_map])
  go_wp2_with (first | (at_next;refine p_next _ rfl _ rfl rfl hr1 hb1 HS.out.1 hc0 ?_ ?_) | go_in)
  ·intro hz
   have HP:Hid (L.Perm cs):=hid (by rw [HT.out,←HCL.out];exact (HC.out.perm HS.out (by rw [hz.out];rfl)).map _)
   have hLc:L.length=cs.length:=HP.out.length_eq
   have hO:=HO.out
   unfold COwn at hO
   obtain ⟨_,⟨e1,e2⟩ | ⟨g,cap,cur,e1,_⟩⟩:=hO
   ·have h0:L=[]:=List.eq_nil_of_length_eq_zero e2
    subst h0
    cases e1
    clear HLT hcnt HT hLc hi0 hz0 hz1 hz2 ht hz hr1 hb1 hb hl hlt hc0 hwz
    go_wp2_with fail
    refine (sortNil wr).mono ?_
    rintro e w2 ⟨⟨r,rfl⟩,hw⟩
    obtain rfl:=hw.out
    go_wp2
    go_ret
    exact ⟨⟨_,[],rfl,HP.out,List.Pairwise.nil,COwn.nil _ _⟩,HB.out⟩
   ·cases e1
    have HSR:=hid (sortRow (w.heap.size+1) g vk L wr HO.out (by omega))
    have hgB:=(HO.out.lt (b:=g) rfl).1
    clear HLT hcnt HT hz hi0 hz0 hz1 hz2 ht hr1 hb1 hb hl hlt hc0 hwz hLc
    go_wp2_with fail
    refine HSR.out.mono ?_
    rintro e w2 ⟨⟨r,rfl⟩,ss,hsl,hsp,hso,hown,hsz,hoth,h1,h2,h3⟩
    have HX:Hid (LPost cs w (.returned (.slice (some ⟨g,0,none⟩) L.length vk)) w2):=hid (by
     refine ⟨⟨_,ss,rfl,hsp.trans HP.out,hso.imp (fun h=>by omega),?_⟩,h1.trans HB.out.os,h2.trans HB.out.tape,h3.trans HB.out.output,Nat.le_trans HB.out.size hsz,fun k hk=>(hoth k (Nat.lt_of_lt_of_le hk HB.out.size) (by omega)).trans (HB.out.block k hk)⟩
     rw [←hsl]
     exact hown.mono (by omega))
    clear hsl hsp hso hown hsz hoth h1 h2 h3 HSR
    go_wp2
    go_ret
    exact HX.out
  ·intro e w2 HE
   obtain ⟨he2',hg2,hr2,hk2,hsz2⟩:=HE.out
   have he2:e∈(leftOf es seen).toList:=by first | exact he2' | exact Array.mem_toList_iff.2 he2'
   have hC2:=hid (HC.out.step he2)
   have hsh:=hid (left_shrinks es seen e he2)
   have hne:b≠w.heap.size:=by omega
   have hb2:=(hk2 b hne).trans hb1
   have hen:=run_entry_at (P:=Tryz.prog) _ _ _ _ _ _ _ e hr2 hb2 (mem_left he2).1 HS.out.2.1
   obtain ⟨ek,ev⟩:=HKV.out e (mem_left he2).1
   have HTN:Hid (L++[clE e]=(T++[e]).map clE):=hid (by rw [HT.out,List.map_append];rfl)
   obtain ⟨x,hx⟩:∃x,Hid (clE e=x):=⟨_,hid rfl⟩
   rw [hx.out] at ek ev HTN
   rw [ek,ev] at hen ⊢
   have HB2:=hid (HB.out.grown hg2 (Nat.le_trans (Nat.le_succ _) hwz) (fun k e=>by cases e;exact Nat.le_refl _))
   have HO2:Hid (COwn w2 (w.heap.size+1) (.slice va L.length vk) L):=hid (HO.out.kept (fun k e=>hk2 k (by have:=(HO.out.lt e).1;omega)))
   have hLm:L.length≤1048576:=by have:=HLT.out;have:=HLEN.out;omega
   have hb3:Below w2.heap.size w2 ((w2.alloc (.cells #[.int .i64 x.inst,.int .i64 x.step] 147)).alloc (.cells #[.int .i64 x.inst,.int .i64 x.step,.int .i64 x.user] 143)):=((Below.refl _ w2).alloc (Nat.le_refl _) _).alloc (by simp) _
   have HB4:=hid (HB2.out.trans (hb3.mono HB2.out.size))
   have HO4:=hid (HO2.out.below hb3)
   have hz4:((w2.alloc (.cells #[.int .i64 x.inst,.int .i64 x.step] 147)).alloc (.cells #[.int .i64 x.inst,.int .i64 x.step,.int .i64 x.user] 143)).heap.size=w2.heap.size+2:=by simp
   have HR4:Hid (((w2.alloc (.cells #[.int .i64 x.inst,.int .i64 x.step] 147)).alloc (.cells #[.int .i64 x.inst,.int .i64 x.step,.int .i64 x.user] 143)).heap[w.heap.size]?=some (.mapIter (some b) clock (seen.push e.born) clock)):=hid ((hb3.block _ (by omega)).trans hr2)
   have HM4:Hid (((w2.alloc (.cells #[.int .i64 x.inst,.int .i64 x.step] 147)).alloc (.cells #[.int .i64 x.inst,.int .i64 x.step,.int .i64 x.user] 143)).heap[b]?=some (.map es clock)):=hid ((hb3.block _ (by omega)).trans hb2)
   have HROW:Hid (Ap.Row ((w2.alloc (.cells #[.int .i64 x.inst,.int .i64 x.step] 147)).alloc (.cells #[.int .i64 x.inst,.int .i64 x.step,.int .i64 x.user] 143)) 3 (.slice (some ⟨w2.heap.size+1,0,none⟩) 1 1) 1 (cv x)):=hid (row_three _ (by simp) x _)
   have HR1:=hid hr1
   have HB1:=hid hb1
   have hwz2:w.heap.size+1≤w2.heap.size:=by omega
   have HZ4:=hid hz4
   have HCN:=hid hcnt
   clear hb3 hk2 hg2 he2' he2 ek ev HO2 HT HLT hz4 hr1 hb1 hb ht hl hc0 hsz2
   go_wp2_with (at_builtin;go_must (refine Ap.wpList_any _ rfl _ _ 28 rfl (w.heap.size+1) 143 i0 (.agg #[.int .i64 0,.int .i64 0,.int .i64 0]) 3 24 Tryz.underlying28 hi0 hz0 hz1 hz2 rfl (by decide) _ _ _ rfl HO4.out _ _ _ rfl HROW.out (by unfold maxLen;omega) (by omega) (by simp;omega) _ rfl ?_);intro a9 c9 w9 hown9 hg9 hat9)
   have HO9:Hid (COwn w9 (w.heap.size+1) (.slice a9 (L.length+1) c9) (L++[x])):=hid (own_snoc hown9)
   have HB9:Hid (Below w.heap.size w w9):=hid (HB4.out.grown hg9 (by have:=HZ4.out;have:=HB2.out.size;omega) (fun k e=>by have:=(HO4.out.lt e).1;omega))
   have HR9:Hid (w9.heap[w.heap.size]?=some (.mapIter (some b) clock (seen.push e.born) clock)):=hid ((hg9.block _ (by have:=HZ4.out;omega) (fun e=>by have:=(HO4.out.lt e.symm).1;omega)).trans HR4.out)
   have HM9:Hid (w9.heap[b]?=some (.map es clock)):=hid ((hg9.block _ (by have:=HZ4.out;omega) (fun e=>by have:=(HO4.out.lt e.symm).1;omega)).trans HM4.out)
   have hz9:w.heap.size+1≤w9.heap.size:=by have:=hg9.size;have:=HZ4.out;omega
   clear hown9 hg9 hat9 hen hr2 hb2
   go_wp2
   refine ⟨⟨seen.push e.born,clock,T++[e],L++[x],_,by simp,HR9.out,Nat.le_refl _,HM9.out,hC2,by have:=hsh.out;have:=HCN.out;simp at this ⊢;omega,HTN,HO9,HB9,hz9⟩,?_⟩
   have h1:w9.rangeLeft b w.heap.size=(leftOf es (seen.push e.born)).size:=by simp [World.rangeLeft,HR9.out,HM9.out]
   have h2:wr.rangeLeft b w.heap.size=(leftOf es seen).size:=by simp [World.rangeLeft,HR1.out,HB1.out]
   rw [h1,h2]
   exact hsh.out
end Ds
end Go.Proofs.YtccklgopcjilcaaGreatDoor
/- Rows of records that hold rows of their own, as a function makes them itself: each row lies in a block of its own. -/
namespace Go.Proofs.YtccklgopcjilcaaGreatDoor
open Go.RowKit
set_option linter.unusedVariables false
namespace Nst
def own (v:Value) (b:Nat):Prop:=v.ownBlock=some b
def flat (f:Nat→List Value) (n:Nat):List Value:=(List.range n).flatMap f
theorem flat_succ (f:Nat→List Value) (n:Nat):flat f (n+1)=flat f n++f n:=by simp [flat,List.range_succ]
theorem flat_len {f:Nat→List Value} {z:Nat}:∀n,(∀j,j<n→(f j).length=z)→(flat f n).length=n*z
 | 0,_=>by simp [flat]
 | n+1,h=>by rw [flat_succ,List.length_append,flat_len n (fun j hj=>h j (by omega)),h n (by omega),Nat.succ_mul]
theorem mul_lt {j n c z:Nat} (hj:j<n) (hc:c<z):j*z+c<n*z:=by
 have h1:(j+1)*z≤n*z:=Nat.mul_le_mul_right z hj
 rw [Nat.succ_mul] at h1
 omega
theorem flat_get {f:Nat→List Value} {z:Nat}:∀ {n j c:Nat},(∀j,j<n→(f j).length=z)→j<n→c<z→(flat f n)[j*z+c]?=(f j)[c]?
 | 0,j,c,h,hj,_=>by omega
 | n+1,j,c,h,hj,hc=>by
  rw [flat_succ]
  have hl:=flat_len (f:=f) n (fun j hj=>h j (by omega))
  by_cases e:j=n
  ·subst e
   rw [List.getElem?_append_right (by rw [hl];omega),hl,Nat.add_sub_cancel_left]
  ·have:=mul_lt (j:=j) (n:=n) (by omega) hc
   rw [List.getElem?_append_left (by rw [hl];exact this)]
   exact flat_get (fun j hj=>h j (by omega)) (by omega) hc
theorem flat_congr {f g:Nat→List Value}:∀ {n:Nat},(∀j,j<n→f j=g j)→flat f n=flat g n
 | 0,_=>rfl
 | n+1,h=>by rw [flat_succ,flat_succ,h n (by omega),flat_congr (fun j hj=>h j (by omega))]
theorem flat_set {f:Nat→List Value} {z:Nat}:∀ {n j c:Nat},(∀j,j<n→(f j).length=z)→j<n→c<z→∀(u:Value),(flat f n).set (j*z+c) u=flat (fun i=>if i=j then (f j).set c u else f i) n
 | 0,j,c,h,hj,hc,u=>by omega
 | n+1,j,c,h,hj,hc,u=>by
  rw [flat_succ,flat_succ]
  have hl:=flat_len (f:=f) n (fun j hj=>h j (by omega))
  by_cases e:j=n
  ·subst e
   rw [List.set_append_right _ _ (by rw [hl];omega),hl,Nat.add_sub_cancel_left,if_pos rfl]
   congr 1
   exact flat_congr (fun i hi=>by rw [if_neg (by omega)])
  ·have:=mul_lt (j:=j) (n:=n) (by omega) hc
   rw [List.set_append_left _ _ (by rw [hl];exact this),flat_set (fun j hj=>h j (by omega)) (by omega) hc,if_neg (fun e2=>e e2.symm)]
theorem own_lt {w:World} {B:Nat} {e:TypeId} {size n b:Nat} {v:Value} {xs:List Value} (h:w.ownsRow B e size v n xs) (hb:own v b):B≤b∧b<w.heap.size:=h.lt b hb
theorem own_kept {w w':World} {B:Nat} {e:TypeId} {size n:Nat} {v:Value} {xs:List Value} (h:w.ownsRow B e size v n xs) (hb:∀b,own v b→w'.heap[b]?=w.heap[b]?):w'.ownsRow B e size v n xs:=by
 refine ⟨h.1,?_⟩
 rcases h.2 with hn | ⟨g,cap,cur,rfl,hbg,hg,rest⟩
 ·exact .inl hn
 ·exact .inr ⟨g,cap,cur,rfl,hbg,by rw [hb g rfl];exact hg,rest⟩
theorem own_mono {w:World} {B B':Nat} {e:TypeId} {size n:Nat} {v:Value} {xs:List Value} (h:w.ownsRow B e size v n xs) (hb:B'≤B):w.ownsRow B' e size v n xs:=by
 refine ⟨h.1,?_⟩
 rcases h.2 with hn | ⟨g,cap,cur,rfl,hbg,rest⟩
 ·exact .inl hn
 ·exact .inr ⟨g,cap,cur,rfl,Nat.le_trans hb hbg,rest⟩
theorem own_slice {w:World} {B:Nat} {e:TypeId} {size n:Nat} {v:Value} {xs:List Value} (h:w.ownsRow B e size v n xs):∃a cap,v=.slice a n cap:=by
 rcases h.2 with ⟨rfl,rfl⟩ | ⟨g,cap,cur,rfl,_⟩
 ·exact ⟨_,_,rfl⟩
 ·exact ⟨_,_,rfl⟩
theorem own_some {w:World} {B:Nat} {e:TypeId} {size n:Nat} {v:Value} {xs:List Value} (h:w.ownsRow B e size v n xs) (h0:0<n):∃g cap,v=.slice (some ⟨g,0,none⟩) n cap∧B≤g∧g<w.heap.size∧n≤cap∧cap≤maxLen:=by
 rcases h.2 with ⟨rfl,rfl⟩ | ⟨g,cap,cur,rfl,hb,hh,h1,h2,_⟩
 ·omega
 ·exact ⟨g,cap,rfl,hb,(Array.getElem?_eq_some_iff.1 hh).1,h1,h2⟩
structure Sub where
 ty:TypeId
 sz:Nat
 v:Value
 n:Nat
 xs:List Value
def Sub.At (w:World) (B:Nat) (s:Sub):Prop:=w.ownsRow B s.ty s.sz s.v s.n s.xs
structure At (w:World) (B:Nat) (e:TypeId) (z:Nat) (v:Value) (n:Nat) (c:Nat→List Value) (m:Nat) (s:Nat→Sub):Prop where
 row:w.ownsRow B e z v n (flat c n)
 sub:∀i,i<m→(s i).At w B
 sep:∀i j,i<m→j<m→i≠j→∀b,own (s i).v b→¬own (s j).v b
 sepv:∀i,i<m→∀b,own (s i).v b→¬own v b
section
variable {w w' : World} {B : Nat} {e : TypeId} {z : Nat} {v : Value} {n : Nat} {c : Nat → List Value} {m : Nat} {s : Nat → Sub}
theorem At.kept (h:At w B e z v n c m s) (hv:∀b,own v b→w'.heap[b]?=w.heap[b]?) (hs:∀i,i<m→∀b,own (s i).v b→w'.heap[b]?=w.heap[b]?):At w' B e z v n c m s:=
 ⟨own_kept h.row hv,fun i hi=>own_kept (h.sub i hi) (hs i hi),h.sep,h.sepv⟩
theorem At.keep (h:At w B e z v n c m s) (hb:∀b,B≤b→b<w.heap.size→w'.heap[b]?=w.heap[b]?):At w' B e z v n c m s:=
 h.kept (fun b hv=>hb b (own_lt h.row hv).1 (own_lt h.row hv).2) (fun i hi b hs=>hb b (own_lt (h.sub i hi) hs).1 (own_lt (h.sub i hi) hs).2)
theorem At.below (h:At w B e z v n c m s) (hb:Below w.heap.size w w'):At w' B e z v n c m s:=h.keep (fun b _ hl=>hb.block b hl)
theorem At.mono {B':Nat} (h:At w B e z v n c m s) (hb:B'≤B):At w B' e z v n c m s:=⟨own_mono h.row hb,fun i hi=>own_mono (h.sub i hi) hb,h.sep,h.sepv⟩
theorem At.nil (w:World) (B:Nat) (e:TypeId) (z:Nat) (c:Nat→List Value) (s:Nat→Sub):At w B e z (.slice none 0 0) 0 c 0 s:=
 ⟨World.ownsRow_nil w B e z,fun i h=>by omega,fun i j h=>by omega,fun i h=>by omega⟩
theorem At.congr {c':Nat→List Value} {s':Nat→Sub} (h:At w B e z v n c m s) (hc:∀j,j<n→c' j=c j) (hs:∀i,i<m→s' i=s i):At w B e z v n c' m s':=
 ⟨by rw [flat_congr hc];exact h.row,fun i hi=>by rw [hs i hi];exact h.sub i hi,fun i j hi hj hij b=>by rw [hs i hi,hs j hj];exact h.sep i j hi hj hij b,fun i hi b=>by rw [hs i hi];exact h.sepv i hi b⟩
theorem At.cell {g cap:Nat} (h:At w B e z (.slice (some ⟨g,0,none⟩) n cap) n c m s) (hc:∀j,j<n→(c j).length=z) {j i:Nat} (hj:j<n) (hi:i<z):w.cell? ⟨g,j*z+i,none⟩=(c j)[i]?:=by
 rw [h.row.cellAt (j*z+i) (mul_lt hj hi)]
 exact flat_get hc hj hi
theorem At.free {g cap:Nat} (h:At w B e z (.slice (some ⟨g,0,none⟩) n cap) n c m s) (i:Nat):w.frozen? ⟨g,i,none⟩=false:=h.row.frozenAt i
theorem At.setRow {g cap:Nat} (h:At w B e z (.slice (some ⟨g,0,none⟩) n cap) n c m s) (hc:∀j,j<n→(c j).length=z) {j i:Nat} (hj:j<n) (hi:i<z) (u:Value):
    At (w.setCell ⟨g,j*z+i,none⟩ u) B e z (.slice (some ⟨g,0,none⟩) n cap) n (fun x=>if x=j then (c j).set i u else c x) m s:=by
 have hst:=h.row.stored (j*z+i) u
 rw [flat_set hc hj hi] at hst
 refine ⟨hst.1,fun q hq=>?_,h.sep,h.sepv⟩
 refine World.ownsRow.kept (h.sub q hq) hst.2 ?_
 cases hb:(s q).v.ownBlock with
 | none=>exact .inl rfl
 | some b=>exact .inr (fun e2=>h.sepv q hq b hb e2.symm)
theorem At.setSub (h:At w B e z v n c m s) {q:Nat} (hq:q<m) {xs:List Value} (hx:w'.ownsRow B (s q).ty (s q).sz (s q).v (s q).n xs) (hg:w.grownBy w' (s q).v.ownBlock):
    At w' B e z v n c m (fun i=>if i=q then { s q with xs:=xs } else s i):=by
 refine ⟨h.row.kept hg ?_,fun i hi=>?_,fun i j hi hj hij b=>?_,fun i hi b=>?_⟩
 ·cases hb:v.ownBlock with
  | none=>exact .inl rfl
  | some b=>exact .inr (fun e2=>h.sepv q hq b e2.symm hb)
 ·by_cases ei:i=q
  ·subst ei
   simp only [if_true]
   exact hx
  ·simp only [ei,if_false]
   refine World.ownsRow.kept (h.sub i hi) hg ?_
   cases hb:(s i).v.ownBlock with
   | none=>exact .inl rfl
   | some b=>exact .inr (fun e2=>h.sep i q hi hq ei b hb e2.symm)
 ·have e1:(if i=q then { s q with xs:=xs } else s i).v=(s i).v:=by split <;> simp_all
  have e2:(if j=q then { s q with xs:=xs } else s j).v=(s j).v:=by split <;> simp_all
  rw [e1,e2]
  exact h.sep i j hi hj hij b
 ·have e1:(if i=q then { s q with xs:=xs } else s i).v=(s i).v:=by split <;> simp_all
  rw [e1]
  exact h.sepv i hi b
theorem At.push {w2:World} {v':Value} {cs:List Value} {p:Nat} {t:Nat→Sub} (h:At w B e z v n c m s) (ht:∀i,i<p→(t i).At w B) (htt:∀i j,i<p→j<p→i≠j→∀b,own (t i).v b→¬own (t j).v b)
    (hts:∀i j,i<m→j<p→∀b,own (s i).v b→¬own (t j).v b) (htv:∀i,i<p→∀b,own (t i).v b→¬own v b)
    (hown:w2.ownsRow B e z v' (n+1) (flat c n++cs)) (hg:w.grownBy w2 v.ownBlock) (hat:v'.ownBlock=v.ownBlock∨v'.ownBlock=some w.heap.size):
    At w2 B e z v' (n+1) (fun j=>if j=n then cs else c j) (m+p) (fun i=>if i<m then s i else t (i - m)):=by
 have hv':∀b,own v' b→own v b∨b=w.heap.size:=fun b hb=>by
  rcases hat with e | e
  ·exact .inl (by unfold own;rw [←e];exact hb)
  ·right;unfold own at hb;rw [e] at hb;exact (Option.some.inj hb).symm
 have keep:∀ {u:Sub},u.At w B→(∀b,own u.v b→¬own v b)→u.At w2 B:=fun {u} hu hne=>by
  refine World.ownsRow.kept hu hg ?_
  cases hb:u.v.ownBlock with
  | none=>exact .inl rfl
  | some b=>exact .inr (fun e2=>hne b hb e2.symm)
 have old:∀ {u:Sub},u.At w B→(∀b,own u.v b→¬own v b)→∀b,own u.v b→¬own v' b:=fun {u} hu hne b hb hv=>by
  rcases hv' b hv with h3 | h3
  ·exact hne b hb h3
  ·have:=(own_lt hu hb).2
   omega
 refine ⟨?_,fun i hi=>?_,fun i j hi hj hij b=>?_,fun i hi b=>?_⟩
 ·rw [flat_succ,if_pos rfl,flat_congr (g:=c) (fun j hj=>by rw [if_neg (by omega)])]
  exact hown
 ·by_cases e1:i<m
  ·simp only [e1,if_true]
   exact keep (h.sub i e1) (h.sepv i e1)
  ·simp only [e1,if_false]
   exact keep (ht _ (by omega)) (htv _ (by omega))
 ·by_cases e1:i<m
  ·by_cases e2:j<m
   ·simp only [e1,e2,if_true]
    exact h.sep i j e1 e2 hij b
   ·simp only [e1,e2,if_true,if_false]
    exact hts i (j - m) e1 (by omega) b
  ·by_cases e2:j<m
   ·simp only [e1,e2,if_true,if_false]
    exact fun a1 a2=>hts j (i - m) e2 (by omega) b a2 a1
   ·simp only [e1,e2,if_false]
    exact htt (i - m) (j - m) (by omega) (by omega) (by omega) b
 ·by_cases e1:i<m
  ·simp only [e1,if_true]
   exact old (h.sub i e1) (h.sepv i e1) b
  ·simp only [e1,if_false]
   exact old (ht _ (by omega)) (htv _ (by omega)) b
end
end Nst
end Go.Proofs.YtccklgopcjilcaaGreatDoor
/- Rows of nodes that a function has made itself: their cells, kept over what grows; as a list of nodes. -/
namespace Go.Proofs.YtccklgopcjilcaaGreatDoor
open Go.RowKit
set_option linter.unusedVariables false
namespace Ex
open Nd (NodeD)
def nval (n:NodeD):List Value:=[.int .i64 n.kind,.int .i64 n.value,.int .i64 n.left,.int .i64 n.right]
def nvals (l:List NodeD):List Value:=l.flatMap nval
theorem nvals_len (l:List NodeD):(nvals l).length=l.length*4:=by
 induction l with
 | nil=>rfl
 | cons a l ih=>simp only [nvals,List.flatMap_cons,List.length_append,List.length_cons] at ih ⊢;rw [ih];simp [nval];omega
theorem nvals_snoc (l:List NodeD) (n:NodeD):nvals (l++[n])=nvals l++nval n:=by simp [nvals]
theorem infoNode:(Tryz.prog.info? 210).map (fun i=>(i.zero,i.size,i.bytes))=some (some (.agg #[.int .i64 0,.int .i64 0,.int .i64 0,.int .i64 0]),4,32):=by kernel_rfl
theorem nvals_get:∀(l:List NodeD) (i:Nat) (h:i<l.length),(nvals l)[i*4]?=some (.int .i64 l[i].kind)∧(nvals l)[i*4+1]?=some (.int .i64 l[i].value)∧(nvals l)[i*4+2]?=some (.int .i64 l[i].left)∧(nvals l)[i*4+3]?=some (.int .i64 l[i].right)
 | [],i,h=>by simp at h
 | n :: l,0,h=>by simp [nvals,nval]
 | n :: l,i+1,h=>by
  have ih:=nvals_get l i (by simpa using h)
  have e:nvals (n :: l)=nval n++nvals l:=by simp [nvals]
  have e4:(nval n).length=4:=rfl
  simp only [List.getElem_cons_succ]
  rw [e]
  refine ⟨?_,?_,?_,?_⟩
  ·rw [List.getElem?_append_right (by omega),e4,show (i+1)*4 - 4=i*4 by omega];exact ih.1
  ·rw [List.getElem?_append_right (by omega),e4,show (i+1)*4+1 - 4=i*4+1 by omega];exact ih.2.1
  ·rw [List.getElem?_append_right (by omega),e4,show (i+1)*4+2 - 4=i*4+2 by omega];exact ih.2.2.1
  ·rw [List.getElem?_append_right (by omega),e4,show (i+1)*4+3 - 4=i*4+3 by omega];exact ih.2.2.2
end Ex
end Go.Proofs.YtccklgopcjilcaaGreatDoor
