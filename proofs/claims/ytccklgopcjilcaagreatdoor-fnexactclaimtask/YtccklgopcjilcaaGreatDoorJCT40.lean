/- Laid together: FrM, Shelf, CwA. -/
import Derived.Test.YtccklgopcjilcaaGreatDoorJCT35
import Derived.Test.YtccklgopcjilcaaGreatDoorJCT39
import Derived.Shelf.Small.Bits
import Derived.Shelf.Strconv.Itoa0
import Derived.Shelf.LaysM
import Derived.Shelf.Strconv.Clone
import Derived.Test.YtccklgopcjilcaaGreatDoorProg
import Derived.Test.YtccklgopcjilcaaGreatDoorJCT36
import Derived.Test.YtccklgopcjilcaaGreatDoorJCT34
import Derived.Deep.Cut
/- What ClaimTask and FreeTask come to: plain. -/
namespace Go.Proofs.YtccklgopcjilcaaGreatDoor
open Go.RowKit Go.Deep
set_option linter.unusedVariables false
set_option linter.unusedSimpArgs false
namespace Fr
open Go.ChangeMaps (setBlock)
open En (EngD)
open Cl (ClD)
open Eg (engC)
open Ex (hid)
open Pf (Rul)
open Dk (DeskD deskC askC heldC isU hasI openT ents of_ask of_held of_d of_claims of_claim of_one CJ CJ_eq oneC claimC claimsC TPost rg_ask look)
open Ds (Rise rise_of without ents_without insertC insert_perm insert_rise ents_snoc same_of LPost)
open Of (who who_or COwn)
open Eo (EOwn EOwnC PRow IRow)
open Ch (blk_cell blk_lt blk_free blk_set new_blk new_at)
abbrev noD:DeskD:=⟨⟨[],[],0⟩,[]⟩
theorem nilE (w:World) (B:Nat):EOwn w B (.slice none 0 0) (.slice none 0 0) ⟨[],[],0⟩:=
 ⟨_,_,_,_,_,_,_,_,_,_,PRow.nil w B,IRow.nil w B,fun b h=>by rcases h with h | ⟨j,h,_⟩;cases h;simp at h⟩
def DPost (code:Int) (d:DeskD) (w:World) (z:Ending) (w':World):Prop:=
 (∃vp vi vc M,z=.returned (.agg #[.int .i64 code,.int .i64 0,vp,vi,.int .i64 d.eng.now,vc])∧EOwnC w' w.heap.size M vp vi d.eng∧COwn w' M vc d.claims∧w.heap.size≤M∧M≤w'.heap.size)∧Below w.heap.size w w'
theorem DPost.bad {c c':Int} {d:DeskD} {w w':World} (h:c'=c) (hd:d=noD) (hb:Below w.heap.size w w'):DPost c' d w (.returned (.agg #[.int .i64 c,.int .i64 0,.slice none 0 0,.slice none 0 0,.int .i64 0,.slice none 0 0])) w':=by
 subst hd h
 exact ⟨⟨_,_,_,w'.heap.size,rfl,EOwnC.of (nilE w' w.heap.size),COwn.nil _ _,hb.size,Nat.le_refl _⟩,hb⟩
theorem EOwnC.lower {w:World} {B B' M:Nat} {vp vi:Value} {e:EngD} (h:EOwnC w B M vp vi e) (hB:B'≤B):EOwnC w B' M vp vi e:=by
 obtain ⟨pv,C,E,pl,ph,u1,u2,u3,il,ih,h1,h2,h3,h4⟩:=h
 exact ⟨pv,C,E,pl,ph,u1,u2,u3,il,ih,h1.mono hB,h2.mono hB,h3,h4⟩
theorem six {w:World} {b:Nat} {t:TypeId} {z0 z1 z2 z3 z4 z5:Value} (h:w.heap[b]?=some (.cells #[z0,z1,z2,z3,z4,z5] t)):
    w.cell? ⟨b,0,none⟩=some z0∧w.cell? ⟨b,1,none⟩=some z1∧w.cell? ⟨b,2,none⟩=some z2∧w.cell? ⟨b,3,none⟩=some z3∧w.cell? ⟨b,4,none⟩=some z4∧w.cell? ⟨b,5,none⟩=some z5∧(∀i,w.frozen? ⟨b,i,none⟩=false)∧b<w.heap.size:=
 ⟨blk_cell h 0,blk_cell h 1,blk_cell h 2,blk_cell h 3,blk_cell h 4,blk_cell h 5,fun i=>blk_free h i,blk_lt h⟩
theorem below6 {W w:World} {B b:Nat} (h:Below B W w) (hb:B≤b) (x0 x1 x2 x3 x4 x5:Value):
    Below B W ((((((w.setCell ⟨b,0,none⟩ x0).setCell ⟨b,1,none⟩ x1).setCell ⟨b,2,none⟩ x2).setCell ⟨b,3,none⟩ x3).setCell ⟨b,4,none⟩ x4).setCell ⟨b,5,none⟩ x5):=(((((h.setCell hb _).setCell hb _).setCell hb _).setCell hb _).setCell hb _).setCell hb _
theorem rise_desk {d:DeskD} (h:deskC d=0):Rise d.claims:=rise_of (e:=d.eng) (fun j hj=>of_claims (of_d h).2.2 hj)
theorem user_of {d:DeskD} (h:deskC d=0) {c:ClD} (hc:c∈d.claims):isU c.user=true:=by
 obtain ⟨k,hk,rfl⟩:=List.getElem_of_mem hc
 have h1:=(of_claim (of_claims (of_d h).2.2 hk)).1
 rw [CJ_eq hk] at h1
 exact (of_one h1).2.1
theorem who_free {d:DeskD} {i s:Int} (h:deskC d=0) (hw:who d.claims i s=0):((i,s) ∉ (ents d.claims).map (·.1))∧∀c∈d.claims,¬(c.inst=i∧c.step=s):=by
 have h1:(i,s) ∉ (ents d.claims).map (·.1):=by
  rcases who_or d.claims i s with h1 | ⟨h1,_⟩
  ·exfalso
   unfold ents at h1
   obtain ⟨c,hc,e⟩:=List.mem_map.1 h1
   have hu:=user_of h hc
   have e2:c.user=who d.claims i s:=by
    have:=congrArg Prod.snd e
    unfold Dk.ent at this
    simpa using this
   rw [e2,hw] at hu
   exact absurd hu (by decide)
  ·exact h1
 refine ⟨h1,fun c hc hcs=>h1 ?_⟩
 unfold ents
 rw [List.map_map]
 refine List.mem_map.2 ⟨c,hc,?_⟩
 unfold Dk.ent
 simp [hcs.1,hcs.2]
def freeD (d:DeskD) (u i s:Int):DeskD:=if heldC d u i s=0 then ⟨d.eng,without d.claims i s⟩ else noD
def claimTC (d:DeskD) (u i s:Int):Int:=if askC d u i s≠0 then askC d u i s else if who d.claims i s≠0 then 6 else if d.claims.length=60 then 2 else 0
def claimD (d:DeskD) (u i s:Int):DeskD:=if claimTC d u i s=0 then ⟨d.eng,insertC d.claims ⟨i,s,u⟩⟩ else noD
theorem ct_ask {d:DeskD} {u i s:Int} (h:askC d u i s≠0):claimTC d u i s=askC d u i s:=by unfold claimTC;rw [if_pos h]
theorem ct_taken {d:DeskD} {u i s:Int} (h:askC d u i s=0) (h2:who d.claims i s≠0):claimTC d u i s=6:=by unfold claimTC;rw [if_neg (by simp [h]),if_pos h2]
theorem ct_many {d:DeskD} {u i s:Int} (h:askC d u i s=0) (h2:who d.claims i s=0) (h3:d.claims.length=60):claimTC d u i s=2:=by unfold claimTC;rw [if_neg (by simp [h]),if_neg (by simp [h2]),if_pos h3]
theorem ct_ok {d:DeskD} {u i s:Int} (h:askC d u i s=0) (h2:who d.claims i s=0) (h3:¬d.claims.length=60):claimTC d u i s=0:=by unfold claimTC;rw [if_neg (by simp [h]),if_neg (by simp [h2]),if_neg h3]
theorem claim_bad {d:DeskD} {u i s c:Int} (h:claimTC d u i s=c) (hc:c≠0):claimD d u i s=noD:=by unfold claimD;rw [if_neg (by rw [h];exact hc)]
theorem claim_ok {d:DeskD} {u i s:Int} (h:claimTC d u i s=0):claimD d u i s=⟨d.eng,insertC d.claims ⟨i,s,u⟩⟩:=by unfold claimD;rw [if_pos h]
theorem insert_len (cs:List ClD) (x:ClD):(insertC cs x).length=cs.length+1:=by rw [(insert_perm cs x).length_eq];simp
theorem below_map {W w w':World} {B M:Nat} (h:Below B W w) (hM:B≤M) (ho:∀j,j≠M→w'.heap[j]?=w.heap[j]?) (hs:w'.heap.size=w.heap.size) (e1:w'.os=w.os) (e2:w'.tape=w.tape) (e3:w'.output=w.output):Below B W w':=
 ⟨e1.trans h.os,e2.trans h.tape,e3.trans h.output,by rw [hs];exact h.size,fun k hk=>(ho k (by omega)).trans (h.block k hk)⟩
end Fr
end Go.Proofs.YtccklgopcjilcaaGreatDoor
/- The contracts of the library that this seat uses, laid at its program: each is one application of a theorem of the given library. -/
namespace Go.Proofs.YtccklgopcjilcaaGreatDoor
open Go.Shelf
def Tryz.laysM316_ren:Go.Shelf.Ren:=⟨fun | 316=>238 | n=>n,fun | 9=>9 | 3=>3 | 4=>4 | 37=>31 | 0=>0 | 127=>331 | 5=>5 | n=>n,fun | n=>n⟩
theorem Tryz.laysM316:Go.Proofs.LaysM.n316 Tryz.prog Tryz.laysM316_ren:={
 mixed:=by kernel_rfl
 f316:=Tryz.func238.trans (congrArg some (by kernel_rfl))
 t0:=Tryz.underlying0
 a0:=Tryz.isAgg0
 z0:=Tryz.sizeOf0
 v0:=Tryz.zeroValue0
 t3:=Tryz.underlying3
 a3:=Tryz.isAgg3
 z3:=Tryz.sizeOf3
 v3:=Tryz.zeroValue3
 t4:=Tryz.underlying4
 a4:=Tryz.isAgg4
 z4:=Tryz.sizeOf4
 v4:=Tryz.zeroValue4
 t9:=Tryz.underlying9
 a9:=Tryz.isAgg9
 z9:=Tryz.sizeOf9
 v9:=Tryz.zeroValue9
 t37:=Tryz.underlying31
 a37:=Tryz.isAgg31
 z37:=Tryz.sizeOf31
 v37:=Tryz.zeroValue31
 t127:=Tryz.underlying331
 a127:=Tryz.isAgg331
 z127:=Tryz.sizeOf331
 v127:=Tryz.zeroValue331
 t5:=Tryz.underlying5
 a5:=Tryz.isAgg5
 z5:=Tryz.sizeOf5
 v5:=Tryz.zeroValue5
 i0:=by kernel_rfl
 i3:=by kernel_rfl
 i4:=by kernel_rfl
 i5:=by kernel_rfl
 i9:=by kernel_rfl
 i37:=by kernel_rfl
 i127:=by kernel_rfl }
open Go.RowKit in
theorem Tryz.stringslite_Clone (s:ByteArray) (w:World) (hlim:s.size≤281474976710656):
    Calls Tryz.prog 238 #[.string s] w fun e w'=>e=.returned (.string s)∧Below w.heap.size w w':=Any.stringslite_Clone Tryz.laysM316 s w hlim
end Go.Proofs.YtccklgopcjilcaaGreatDoor
/- A step with memory of its own (ownStep), steps copied (l4Copy). -/
namespace Go.Proofs.YtccklgopcjilcaaGreatDoor
open Go.RowKit Go.Deep
set_option linter.unusedVariables false
namespace Cw
open Ex (hid nvals nvals_len nvals_get)
open Nd (NodeD)
open St (StepD)
open Nst (own flat)
open Go.Proofs.YtccklgopcjilcaaGreatDoor.So (SOwn SJ scell)
theorem heap_new (w:World) (o:Obj):(w.alloc o).heap[w.heap.size]?=some o:=by
 show (w.heap.push o)[w.heap.size]?=some o
 simp
structure Kp (P:Nat→Prop) (w w':World):Prop where
 size:w.heap.size≤w'.heap.size
 block:∀b,P b→b<w.heap.size→w'.heap[b]?=w.heap[b]?
theorem Kp.refl (P:Nat→Prop) (w:World):Kp P w w:=⟨Nat.le_refl _,fun _ _ _=>rfl⟩
theorem Kp.trans {P:Nat→Prop} {a b c:World} (h:Kp P a b) (k:Kp P b c):Kp P a c:=⟨Nat.le_trans h.size k.size,fun g hp hg=>(k.block g hp (Nat.lt_of_lt_of_le hg h.size)).trans (h.block g hp hg)⟩
theorem Kp.alloc {P:Nat→Prop} {a w:World} (h:Kp P a w) (o:Obj):Kp P a (w.alloc o):=⟨Nat.le_trans h.size (by simp),fun b hp hb=>(Below.heap_alloc w o b (Nat.lt_of_lt_of_le hb h.size)).trans (h.block b hp hb)⟩
theorem Kp.setCell {P:Nat→Prop} {a w:World} (h:Kp P a w) {p:Addr} (hp:p.block<a.heap.size→¬P p.block) (u:Value):Kp P a (w.setCell p u):=⟨Nat.le_trans h.size (by simp [World.setCell]),fun b hb hl=>(Below.heap_setCell w p u b (fun e=>hp (e ▸ hl) (e ▸ hb))).trans (h.block b hb hl)⟩
theorem Kp.below {P:Nat→Prop} {a b c:World} (h:Kp P a b) (k:Below b.heap.size b c):Kp P a c:=h.trans ⟨k.size,fun g _ hg=>k.block g hg⟩
theorem Kp.grown {P:Nat→Prop} {a w w':World} {row:Option Nat} (h:Kp P a w) (hg:w.grownBy w' row) (hr:∀b,P b→some b≠row):Kp P a w':=h.trans ⟨hg.size,fun b hp hb=>hg.block b hb (fun e=>hr b hp e)⟩
theorem Kp.own {P:Nat→Prop} {w w':World} {B:Nat} {e:TypeId} {size n:Nat} {v:Value} {xs:List Value} (k:Kp P w w') (h:w.ownsRow B e size v n xs) (hp:∀b,own v b→P b):w'.ownsRow B e size v n xs:=Nst.own_kept h (fun b hb=>k.block b (hp b hb) (Nst.own_lt h hb).2)
theorem kp6 {P:Nat→Prop} {x w:World} (h:Kp P x w) {b:Nat} (hb:¬P b) (a0 a1 a2 a3 a4 a5:Value):Kp P x ((((((w.setCell ⟨b,0,none⟩ a0).setCell ⟨b,1,none⟩ a1).setCell ⟨b,2,none⟩ a2).setCell ⟨b,3,none⟩ a3).setCell ⟨b,4,none⟩ a4).setCell ⟨b,5,none⟩ a5):=
 ((((((h.setCell (p:=⟨b,0,none⟩) (fun _=>hb) _).setCell (p:=⟨b,1,none⟩) (fun _=>hb) _).setCell (p:=⟨b,2,none⟩) (fun _=>hb) _).setCell (p:=⟨b,3,none⟩) (fun _=>hb) _).setCell (p:=⟨b,4,none⟩) (fun _=>hb) _).setCell (p:=⟨b,5,none⟩) (fun _=>hb) _)
theorem blk_put {w:World} {b i:Nat} {t:TypeId} {cs:Array Value} {fr:Nat × Nat} (h:w.heap[b]?=some (.cells cs t fr)) (v:Value):(w.setCell ⟨b,i,none⟩ v).heap[b]?=some (.cells (cs.setIfInBounds i v) t fr):=by
 simp [World.setCell,Array.getElem?_modify,h]
theorem cloneS (s:ByteArray) (w:World) (h:s.size≤1048576):Calls Tryz.prog 203 #[.string s] w fun e w'=>e=.returned (.string s)∧Below w.heap.size w w':=by
 go_enter Tryz.func203,Tryz.ntmps203
 go_wp2_with fail
 refine (Tryz.stringslite_Clone s _ (by omega)).mono ?_
 rintro e w1 ⟨rfl,hb1⟩
 go_wp2
 go_ret
 exact ⟨rfl,hb1⟩
theorem row_nodes {w:World} {B:Nat} {v:Value} {ns:List NodeD} (h:Nd.At w B v ns):Ap.Row w 4 v ns.length (nvals ns):=by
 obtain ⟨a,cap,rfl,hle,hmx,h1⟩:=h
 refine ⟨a,cap,rfl,nvals_len ns,fun u hu=>?_,?_⟩
 ·unfold nvals at hu
  obtain ⟨n,_,hu⟩:=List.mem_flatMap.1 hu
  simp only [Ex.nval,List.mem_cons,List.not_mem_nil,or_false] at hu
  rcases hu with rfl | rfl | rfl | rfl <;> rfl
 ·rcases h1 with rfl | ⟨g,o,rfl,hB,hg,hc⟩
  ·exact .inl rfl
  ·refine .inr ⟨_,rfl,fun j u hu=>?_⟩
   rw [Go.WideShapes.add_plain]
   have hj:j<ns.length*4:=by
    have:=(List.getElem?_eq_some_iff.1 hu).1
    rw [nvals_len] at this
    exact this
   have hd:j / 4<ns.length:=Nat.div_lt_of_lt_mul (by omega)
   obtain ⟨g1,g2,g3,g4⟩:=nvals_get ns (j / 4) hd
   obtain ⟨k1,k2,k3,k4⟩:=hc (j / 4) hd
   have hm:j % 4=0∨j % 4=1∨j % 4=2∨j % 4=3:=by omega
   rcases hm with e | e | e | e
   ·rw [show j=j / 4*4 by omega] at hu ⊢
    rw [g1] at hu;cases hu;exact k1
   ·rw [show j=j / 4*4+1 by omega] at hu ⊢
    rw [g2] at hu;cases hu;rw [←Nat.add_assoc];exact k2
   ·rw [show j=j / 4*4+2 by omega] at hu ⊢
    rw [g3] at hu;cases hu;rw [←Nat.add_assoc];exact k3
   ·rw [show j=j / 4*4+3 by omega] at hu ⊢
    rw [g4] at hu;cases hu;rw [←Nat.add_assoc];exact k4
theorem bcell {w:World} {b:Nat} {cs:Array Value} {t:TypeId} {fr:Nat × Nat} (h:w.heap[b]?=some (.cells cs t fr)) (i:Nat):w.cell? ⟨b,i,none⟩=cs[i]?:=by simp [World.cell?,h]
theorem bfree {w:World} {b:Nat} {cs:Array Value} {t:TypeId} (h:w.heap[b]?=some (.cells cs t (0,0))) (i:Nat):w.frozen? ⟨b,i,none⟩=false:=by simp [World.frozen?,h]
theorem set6 {w:World} {b:Nat} {t:TypeId} {fr:Nat × Nat} {z0 z1 z2 z3 z4 z5:Value} (h:w.heap[b]?=some (.cells #[z0,z1,z2,z3,z4,z5] t fr)) (a0 a1 a2 a3 a4 a5:Value):((((((w.setCell ⟨b,0,none⟩ a0).setCell ⟨b,1,none⟩ a1).setCell ⟨b,2,none⟩ a2).setCell ⟨b,3,none⟩ a3).setCell ⟨b,4,none⟩ a4).setCell ⟨b,5,none⟩ a5).heap[b]?=some (.cells #[a0,a1,a2,a3,a4,a5] t fr):=by
 have h7:=blk_put (i:=5) (blk_put (i:=4) (blk_put (i:=3) (blk_put (i:=2) (blk_put (i:=1) (blk_put (i:=0) h a0) a1) a2) a3) a4) a5
 simpa only [List.setIfInBounds_toArray,List.set_cons_zero,List.set_cons_succ] using h7
theorem below6 {B:Nat} {x w:World} (h:Below B x w) {b:Nat} (hb:B≤b) (a0 a1 a2 a3 a4 a5:Value):Below B x ((((((w.setCell ⟨b,0,none⟩ a0).setCell ⟨b,1,none⟩ a1).setCell ⟨b,2,none⟩ a2).setCell ⟨b,3,none⟩ a3).setCell ⟨b,4,none⟩ a4).setCell ⟨b,5,none⟩ a5):=
 ((((((h.setCell (p:=⟨b,0,none⟩) hb _).setCell (p:=⟨b,1,none⟩) hb _).setCell (p:=⟨b,2,none⟩) hb _).setCell (p:=⟨b,3,none⟩) hb _).setCell (p:=⟨b,4,none⟩) hb _).setCell (p:=⟨b,5,none⟩) hb _)
def OwnPost (s:StepD) (par:Int) (w:World) (e:Ending) (w':World):Prop:=
 (∃uc ue,e=.returned (.agg #[.int .i64 s.kind,.int .i64 par,.string s.name,.int .i64 s.arg,uc,ue])∧w'.ownsRow w.heap.size 210 4 uc s.cond.length (nvals s.cond)∧w'.ownsRow w.heap.size 210 4 ue s.expr.length (nvals s.expr)∧∀b,own uc b→¬own ue b)∧Below w.heap.size w w'
set_option maxRecDepth 100000 in
set_option maxHeartbeats 4000000 in
theorem ownStep (s:StepD) (p par:Int) (vc ve:Value) (w:World) (hn:s.name.size≤1048576) (hcl:s.cond.length≤1048576) (hel:s.expr.length≤1048576) (hc:Nd.At w 0 vc s.cond) (he:Nd.At w 0 ve s.expr):
    Calls Tryz.prog 171 #[.agg #[.int .i64 s.kind,.int .i64 p,.string s.name,.int .i64 s.arg,vc,ve],.int .i64 par] w (OwnPost s par w):=by
 obtain ⟨ac,cc,rfl⟩:=hc.slice
 obtain ⟨ae,ce,rfl⟩:=he.slice
 obtain ⟨j0,hj,hy0,hy1,hy2⟩:=info_parts Ex.infoNode
 obtain ⟨j6,hj6,hy60,hy61,hy62⟩:=info_parts So.infoStep
 have HCN:=hid hc
 have HEN:=hid he
 have HCS:∀w',Hid (Calls Tryz.prog 203 #[.string s.name] w' fun e w''=>e=.returned (.string s.name)∧Below w'.heap.size w' w''):=fun w'=>hid (cloneS s.name w' hn)
 obtain ⟨w0,hw0⟩:∃w0,w0=(w.alloc (.cells #[.int .i64 s.kind,.int .i64 par,.string s.name,.int .i64 s.arg,.slice ac s.cond.length cc,.slice ae s.expr.length ce] 164)).alloc (.cells #[.int .i64 0,.int .i64 0,.string { data:=#[] },.int .i64 0,.slice none 0 0,.slice none 0 0] 164):=⟨_,rfl⟩
 have hb0:Below w.heap.size w w0:=by rw [hw0];exact ((Below.refl _ w).alloc (Nat.le_refl _) _).alloc (by simp) _
 have hsz:w0.heap.size=w.heap.size+2:=by rw [hw0];simp
 have hx0:w0.heap[w.heap.size]?=some (.cells #[.int .i64 s.kind,.int .i64 par,.string s.name,.int .i64 s.arg,.slice ac s.cond.length cc,.slice ae s.expr.length ce] 164):=by rw [hw0];exact (Below.heap_alloc _ _ _ (by simp)).trans (heap_new w _)
 have hr0:w0.heap[w.heap.size+1]?=some (.cells #[.int .i64 0,.int .i64 0,.string { data:=#[] },.int .i64 0,.slice none 0 0,.slice none 0 0] 164):=by
  have:=heap_new (w.alloc (.cells #[.int .i64 s.kind,.int .i64 par,.string s.name,.int .i64 s.arg,.slice ac s.cond.length cc,.slice ae s.expr.length ce] 164)) (.cells #[.int .i64 0,.int .i64 0,.string { data:=#[] },.int .i64 0,.slice none 0 0,.slice none 0 0] 164)
  rw [World.size_alloc] at this
  rw [hw0]
  exact this
 have HB0:=hid hb0
 have HX0:=hid hx0
 have HR0:=hid hr0
 have HZ0:=hid hsz
 unfold OwnPost
 clear hc he hb0 hsz hx0 hr0
 go_enter Tryz.func171,Tryz.ntmps171
 go_wp2_with fail
 rw [←hw0]
 clear hw0
 refine (HCS _).out.mono ?_
 rintro e w1 ⟨rfl,hb1⟩
 have hsz:=HZ0.out
 have l1:=hb1.size
 have hx1:=(hb1.block w.heap.size (by omega)).trans HX0.out
 have hr1:=(hb1.block (w.heap.size+1) (by omega)).trans HR0.out
 have x2:w1.cell? ⟨w.heap.size,2,none⟩=some (.string s.name):=bcell hx1 2
 have x4:w1.cell? ⟨w.heap.size,4,none⟩=some (.slice ac s.cond.length cc):=bcell hx1 4
 have fx2:=bfree hx1 2
 have HX2:Hid ((w1.setCell ⟨w.heap.size,2,none⟩ (.string s.name)).heap[w.heap.size]?=some (.cells #[.int .i64 s.kind,.int .i64 par,.string s.name,.int .i64 s.arg,.slice ac s.cond.length cc,.slice ae s.expr.length ce] 164)):=hid (by have:=blk_put (i:=2) hx1 (.string s.name);simpa using this)
 have HB1:=hid (HB0.out.trans (hb1.mono HB0.out.size))
 have HB1':Hid (Below w.heap.size w (w1.setCell ⟨w.heap.size,2,none⟩ (.string s.name))):=hid (HB1.out.setCell (p:=⟨w.heap.size,2,none⟩) (Nat.le_refl _) _)
 have HROW:=hid (row_nodes (HCN.out.below HB1'.out))
 have HR1:=hid hr1
 have HX1:=hid hx1
 clear hx1 hr1 hb1
 go_upto_region 4 with (at_builtin;go_must (refine Ap.wpList_any _ rfl _ _ 162 rfl (w.heap.size+2) 210 j0 (.agg #[.int .i64 0,.int .i64 0,.int .i64 0,.int .i64 0]) 4 32 Tryz.underlying162 hj hy0 hy1 hy2 rfl (by decide) _ _ _ rfl (World.ownsRow_nil _ _ _ _) _ _ _ rfl HROW.out (by unfold maxLen;omega) (by omega) (by simp [World.setCell];omega) _ rfl ?_);intro a2 c2 w2 hown2 hg2 hat2;have hx2:=(hg2.block w.heap.size (by simp [World.setCell];omega) (fun e=>by cases e)).trans HX2.out;have y4:w2.cell? ⟨w.heap.size,4,none⟩=some (.slice ac s.cond.length cc):=bcell hx2 4;have fy4:=bfree hx2 4;have y5:w2.cell? ⟨w.heap.size,5,none⟩=some (.slice ae s.expr.length ce):=bcell hx2 5)
 have HX3:Hid ((w2.setCell ⟨w.heap.size,4,none⟩ (.slice a2 s.cond.length c2)).heap[w.heap.size]?=some (.cells #[.int .i64 s.kind,.int .i64 par,.string s.name,.int .i64 s.arg,.slice a2 s.cond.length c2,.slice ae s.expr.length ce] 164)):=hid (by have:=blk_put (i:=4) hx2 (.slice a2 s.cond.length c2);simpa using this)
 have hr2:=(hg2.block (w.heap.size+1) (by simp [World.setCell];omega) (fun e=>by cases e)).trans ((Below.heap_setCell _ _ _ _ (by simp)).trans HR1.out)
 have hb2:Below w.heap.size w w2:=HB1'.out.grown hg2 (by simp [World.setCell];omega) (fun k e=>by cases e)
 have l2:w1.heap.size≤w2.heap.size:=by have:=hg2.size;simpa [World.setCell] using this
 have HB2':Hid (Below w.heap.size w (w2.setCell ⟨w.heap.size,4,none⟩ (.slice a2 s.cond.length c2))):=hid (hb2.setCell (p:=⟨w.heap.size,4,none⟩) (Nat.le_refl _) _)
 have HROW2:=hid (row_nodes (HEN.out.below HB2'.out))
 rw [Nat.zero_add,List.nil_append] at hown2
 have HOW2:=hid hown2
 have HR2:=hid hr2
 clear hown2 hg2 hat2 hx2 hr2 hb2 x2 x4 fx2
 go_wp2_with (at_builtin;go_must (refine Ap.wpList_any _ rfl _ _ 162 rfl w2.heap.size 210 j0 (.agg #[.int .i64 0,.int .i64 0,.int .i64 0,.int .i64 0]) 4 32 Tryz.underlying162 hj hy0 hy1 hy2 rfl (by decide) _ _ _ rfl (World.ownsRow_nil _ _ _ _) _ _ _ rfl HROW2.out (by unfold maxLen;omega) (by omega) (by simp [World.setCell]) _ rfl ?_);intro a3 c3 w3 hown3 hg3 hat3;have hx3:=(hg3.block w.heap.size (by simp [World.setCell];omega) (fun e=>by cases e)).trans HX3.out;have y0:w3.cell? ⟨w.heap.size,0,none⟩=some (.int .i64 s.kind):=bcell hx3 0;have y1:w3.cell? ⟨w.heap.size,1,none⟩=some (.int .i64 par):=bcell hx3 1;have y2:w3.cell? ⟨w.heap.size,2,none⟩=some (.string s.name):=bcell hx3 2;have y3:w3.cell? ⟨w.heap.size,3,none⟩=some (.int .i64 s.arg):=bcell hx3 3;have y4:w3.cell? ⟨w.heap.size,4,none⟩=some (.slice a2 s.cond.length c2):=bcell hx3 4;have y5:w3.cell? ⟨w.heap.size,5,none⟩=some (.slice ae s.expr.length ce):=bcell hx3 5;have fy5:=bfree hx3 5;have hr3:=(hg3.block (w.heap.size+1) (by simp [World.setCell];omega) (fun e=>by cases e)).trans ((Below.heap_setCell _ _ _ _ (by simp)).trans HR2.out);have z0:w3.cell? ⟨w.heap.size+1,0,none⟩=some (.int .i64 0):=bcell hr3 0;have z1:w3.cell? ⟨w.heap.size+1,1,none⟩=some (.int .i64 0):=bcell hr3 1;have z2:w3.cell? ⟨w.heap.size+1,2,none⟩=some (.string { data:=#[] }):=bcell hr3 2;have z3:w3.cell? ⟨w.heap.size+1,3,none⟩=some (.int .i64 0):=bcell hr3 3;have z4:w3.cell? ⟨w.heap.size+1,4,none⟩=some (.slice none 0 0):=bcell hr3 4;have z5:w3.cell? ⟨w.heap.size+1,5,none⟩=some (.slice none 0 0):=bcell hr3 5;have g0:=bfree hr3 0;have g1:=bfree hr3 1;have g2:=bfree hr3 2;have g3:=bfree hr3 3;have g4:=bfree hr3 4;have g5:=bfree hr3 5)
 rw [Nat.zero_add,List.nil_append] at hown3
 have hr4:(w3.setCell ⟨w.heap.size,5,none⟩ (.slice a3 s.expr.length c3)).heap[w.heap.size+1]?=_:=(Below.heap_setCell _ _ _ _ (by simp)).trans hr3
 refine bodyPost_ret (results_cell_row Tryz.results171 _ _ (w.heap.size+1) 164 #[.int .i64 s.kind,.int .i64 par,.string s.name,.int .i64 s.arg,.slice a2 s.cond.length c2,.slice a3 s.expr.length c3] (0,0) _ rfl (set6 hr4 _ _ _ _ _ _) Tryz.underlying164 rfl (by rw [hj6];simp [hy61])) rfl ⟨⟨_,_,rfl,?_,?_,?_⟩,?_⟩
 ·refine Nst.own_mono (Kp.own (P:=fun b=>w.heap.size+2≤b) (kp6 (((((Kp.refl _ w2).setCell (p:=⟨w.heap.size,4,none⟩) (fun _ h=>by simp only at h;omega) _).grown hg3 (fun b _ e=>by cases e)).setCell (p:=⟨w.heap.size,5,none⟩) (fun _ h=>by simp only at h;omega) _)) (fun h=>by omega) _ _ _ _ _ _) HOW2.out (fun b hb=>(Nst.own_lt HOW2.out hb).1)) (by omega)
 ·refine Nst.own_mono (Kp.own (P:=fun b=>w2.heap.size≤b) (kp6 ((Kp.refl _ w3).setCell (p:=⟨w.heap.size,5,none⟩) (fun _ h=>by simp only at h;omega) _) (fun h=>by omega) _ _ _ _ _ _) hown3 (fun b hb=>(Nst.own_lt hown3 hb).1)) (by omega)
 ·intro b h1 h2
  have:=(Nst.own_lt HOW2.out h1).2
  have:=(Nst.own_lt hown3 h2).1
  omega
 ·exact below6 ((HB2'.out.grown hg3 (by simp [World.setCell];omega) (fun k e=>by cases e)).setCell (p:=⟨w.heap.size,5,none⟩) (Nat.le_refl _) _) (by omega) _ _ _ _ _ _
theorem made (w:World) (t:TypeId) (size:Nat):(w.alloc (.cells #[] t)).ownsRow w.heap.size t size (.slice (some ⟨w.heap.size,0,none⟩) 0 0) 0 []:=World.ownsRow_made w #[] 0 (Nat.le_refl _) (by unfold maxLen;omega) (by simp)
theorem sown_made (w:World):SOwn (w.alloc (.cells #[] 164)) w.heap.size (.slice (some ⟨w.heap.size,0,none⟩) 0 0) []:=
 ⟨fun _=>.slice none 0 0,fun _=>.slice none 0 0,made w _ 6,fun i h=>by simp at h,fun i j h=>by simp at h,fun i h=>by simp at h⟩
theorem take_step {ss:List StepD} {j:Nat} (h:j<ss.length):ss.take (j+1)=ss.take j++[ss[j]]:=by rw [List.take_succ_eq_append_getElem h]
set_option maxRecDepth 100000 in
set_option maxHeartbeats 4000000 in
theorem specCopy (B:Nat) (ss:List StepD) (v:Value) (w:World) (hl:ss.length≤1048576) (hsm:∀s∈ss,St.Small1 1048576 s) (ha:St.At w B v ss):
    Calls Tryz.prog 142 #[v] w fun e w'=>(∃u,e=.returned u∧SOwn w' w.heap.size u ss)∧Below w.heap.size w w':=by
 obtain ⟨a,cap,rfl⟩:=ha.slice
 obtain ⟨j0,hj,hy0,hy1,hy2⟩:=info_parts Ex.infoNode
 obtain ⟨j6,hj6,hy60,hy61,hy62⟩:=info_parts So.infoStep
 have HA:=hid ha
 have HSM:=hid hsm
 clear ha hsm
 go_enter Tryz.func142,Tryz.ntmps142
 go_wp2
 go_loopw [3,4] (fun o i wr=>∃(j:Nat),i=.int .i64 j∧j≤ss.length∧(∃a7 n7 c7,o=.slice a7 n7 c7)∧Hid (SOwn wr w.heap.size o (ss.take j))∧Hid (Below w.heap.size w wr)) (fun _ i _=>ss.length - (intOf i).toNat)
 case atStart=>exact ⟨0,rfl,Nat.zero_le _,⟨_,_,_,rfl⟩,hid (sown_made w),hid ((Below.refl _ w).alloc (Nat.le_refl _) _)⟩
 case round=>
  obtain ⟨j,rfl,hjl,⟨a7,n7,c7,rfl⟩,HO,HB⟩:=hrel
  have lw:=HB.out.size
  by_cases hlt:j<ss.length
  ·have q1:(j:Int)<(ss.length:Int):=by omega
   obtain ⟨g,o,vc,ve,rfl,hg,c0,c1,c2,c3,c4,c5,hvc,hve⟩:=(HA.out.below HB.out).at hlt
   obtain ⟨ac,cc,rfl⟩:=hvc.slice
   obtain ⟨ae,ce,rfl⟩:=hve.slice
   have hs1:=HSM.out ss[j] (List.getElem_mem hlt)
   have hs2:=hs1.2.1
   have hs3:=hs1.2.2
   have HTS:=hid (take_step hlt)
   have hn7:n7=(ss.take j).length:=by
    obtain ⟨a',c',e'⟩:=HO.out.slice
    cases e';rfl
   have hn24:(ss.take j).length≤1048576:=by simp;omega
   subst hn7
   have HVC:=hid hvc
   have HVE:=hid hve
   clear hvc hve hs1
   generalize ss[j]=x at *
   generalize hL:ss.take j=L at *
   clear hL
   obtain ⟨w0,hw0⟩:∃w0,w0=wr.alloc (.cells #[.int .i64 x.kind,.int .i64 x.parent,.string x.name,.int .i64 x.arg,.slice ac x.cond.length cc,.slice ae x.expr.length ce] 164):=⟨_,rfl⟩
   have hb0:Below wr.heap.size wr w0:=by rw [hw0];exact (Below.refl _ wr).alloc (Nat.le_refl _) _
   have hx0:w0.heap[wr.heap.size]?=some (.cells #[.int .i64 x.kind,.int .i64 x.parent,.string x.name,.int .i64 x.arg,.slice ac x.cond.length cc,.slice ae x.expr.length ce] 164):=by rw [hw0];exact heap_new wr _
   have hz0:w0.heap.size=wr.heap.size+1:=by rw [hw0];simp
   have x4:w0.cell? ⟨wr.heap.size,4,none⟩=some (.slice ac x.cond.length cc):=bcell hx0 4
   have HB0:=hid hb0
   have HX0:=hid hx0
   have HZ0:=hid hz0
   have HB0':Hid (Below wr.heap.size wr (w0.alloc (.cells #[] 210))):=hid (hb0.alloc (by omega) _)
   have HRW:=hid (row_nodes (HVC.out.below HB0'.out))
   have zl:wr.heap.size<w0.heap.size:=by omega
   clear hb0 hx0 hz0
   go_upto_region 6 with fail
   rw [←hw0]
   clear hw0 c0 c1 c2 c3 c4 c5
   go_upto_region 7 with (at_builtin;go_must (refine Ap.wpList_any _ rfl _ _ 162 rfl w0.heap.size 210 j0 (.agg #[.int .i64 0,.int .i64 0,.int .i64 0,.int .i64 0]) 4 32 Tryz.underlying162 hj hy0 hy1 hy2 rfl (by decide) _ _ _ rfl (made w0 _ 4) _ _ _ rfl HRW.out (by unfold maxLen;omega) (by omega) (by simp) _ rfl ?_);intro a2 c2 w2 hown2 hg2 hat2;have hx2:=(hg2.block wr.heap.size (by simp;omega) (fun e=>by have e2:=Option.some.inj e;dsimp only at e2;omega)).trans ((Below.heap_alloc _ _ _ zl).trans HX0.out);have y4:w2.cell? ⟨wr.heap.size,4,none⟩=some (.slice ac x.cond.length cc):=bcell hx2 4;have fy4:=bfree hx2 4;have y5:w2.cell? ⟨wr.heap.size,5,none⟩=some (.slice ae x.expr.length ce):=bcell hx2 5)
   rw [Nat.zero_add,List.nil_append] at hown2
   have l2:w0.heap.size<w2.heap.size:=by have:=hg2.size;rw [World.size_alloc] at this;omega
   obtain ⟨w3,hw3⟩:∃w3,w3=w2.setCell ⟨wr.heap.size,4,none⟩ (.slice a2 x.cond.length c2):=⟨_,rfl⟩
   have hx3:w3.heap[wr.heap.size]?=some (.cells #[.int .i64 x.kind,.int .i64 x.parent,.string x.name,.int .i64 x.arg,.slice a2 x.cond.length c2,.slice ae x.expr.length ce] 164):=by rw [hw3];have:=blk_put (i:=4) hx2 (.slice a2 x.cond.length c2);simpa using this
   have hz3:w3.heap.size=w2.heap.size:=by rw [hw3];simp [World.setCell]
   have hb3:Below wr.heap.size wr w3:=by
    rw [hw3]
    exact (HB0'.out.grown hg2 (by simp;omega) (fun k e=>by have e2:=Option.some.inj e;dsimp only at e2;omega)).setCell (p:=⟨wr.heap.size,4,none⟩) (Nat.le_refl _) _
   have ho3:w3.ownsRow w0.heap.size 210 4 (.slice a2 x.cond.length c2) x.cond.length (nvals x.cond):=by rw [hw3];exact ownsRow_setCell_below hown2 (a:=⟨wr.heap.size,4,none⟩) zl _
   have HRW3:=hid (row_nodes (HVE.out.below (hb3.alloc (by omega) (.cells #[] 210))))
   have zl3:wr.heap.size<w3.heap.size:=by omega
   have l3:w0.heap.size<w3.heap.size:=by omega
   have y5':w3.cell? ⟨wr.heap.size,5,none⟩=some (.slice ae x.expr.length ce):=bcell hx3 5
   have HX3:=hid hx3
   have HB3:=hid hb3
   have HO3:=hid ho3
   rw [←hw3]
   clear hown2 hg2 hat2 hx2 y4 fy4 y5 hx3 hb3 ho3 hw3 x4 hz3 l2
   go_upto_region 8 with (at_builtin;go_must (refine Ap.wpList_any _ rfl _ _ 162 rfl w3.heap.size 210 j0 (.agg #[.int .i64 0,.int .i64 0,.int .i64 0,.int .i64 0]) 4 32 Tryz.underlying162 hj hy0 hy1 hy2 rfl (by decide) _ _ _ rfl (made w3 _ 4) _ _ _ rfl HRW3.out (by unfold maxLen;omega) (by omega) (by simp) _ rfl ?_);intro a3 c3 w4 hown4 hg4 hat4;have hx4:=(hg4.block wr.heap.size (by simp;omega) (fun e=>by have e2:=Option.some.inj e;dsimp only at e2;omega)).trans ((Below.heap_alloc _ _ _ zl3).trans HX3.out);have z5:w4.cell? ⟨wr.heap.size,5,none⟩=some (.slice ae x.expr.length ce):=bcell hx4 5;have fz5:=bfree hx4 5)
   rw [Nat.zero_add,List.nil_append] at hown4
   have l4:w3.heap.size<w4.heap.size:=by have:=hg4.size;rw [World.size_alloc] at this;omega
   obtain ⟨w5,hw5⟩:∃w5,w5=w4.setCell ⟨wr.heap.size,5,none⟩ (.slice a3 x.expr.length c3):=⟨_,rfl⟩
   have hx5:w5.heap[wr.heap.size]?=some (.cells #[.int .i64 x.kind,.int .i64 x.parent,.string x.name,.int .i64 x.arg,.slice a2 x.cond.length c2,.slice a3 x.expr.length c3] 164):=by rw [hw5];have:=blk_put (i:=5) hx4 (.slice a3 x.expr.length c3);simpa using this
   have hz5:w5.heap.size=w4.heap.size:=by rw [hw5];simp [World.setCell]
   have hb5:Below wr.heap.size wr w5:=by
    rw [hw5]
    exact ((HB3.out.alloc (by omega) _).grown hg4 (by simp;omega) (fun k e=>by have e2:=Option.some.inj e;dsimp only at e2;omega)).setCell (p:=⟨wr.heap.size,5,none⟩) (Nat.le_refl _) _
   have ho5:w5.ownsRow w3.heap.size 210 4 (.slice a3 x.expr.length c3) x.expr.length (nvals x.expr):=by rw [hw5];exact ownsRow_setCell_below hown4 (a:=⟨wr.heap.size,5,none⟩) zl3 _
   have hoc5:w5.ownsRow w0.heap.size 210 4 (.slice a2 x.cond.length c2) x.cond.length (nvals x.cond):=by
    rw [hw5]
    refine ownsRow_setCell_below (Nst.own_kept HO3.out (fun b hb=>?_)) (a:=⟨wr.heap.size,5,none⟩) zl _
    have hbl:=(Nst.own_lt HO3.out hb).2
    exact (hg4.block b (by simp;omega) (fun e=>by have e2:=Option.some.inj e;dsimp only at e2;omega)).trans (Below.heap_alloc _ _ _ hbl)
   have hce:∀b,own (.slice a2 x.cond.length c2) b→¬own (.slice a3 x.expr.length c3) b:=fun b h1 h2=>by
    have:=(Nst.own_lt HO3.out h1).2
    have:=(Nst.own_lt ho5 h2).1
    omega
   have l5:w3.heap.size<w5.heap.size:=by omega
   rw [←hw5]
   clear hz5 l4 hw5 hown4 hg4 hat4 hx4 z5 fz5 y5'
   have z0:w5.cell? ⟨wr.heap.size,0,none⟩=some (.int .i64 x.kind):=bcell hx5 0
   have z1:w5.cell? ⟨wr.heap.size,1,none⟩=some (.int .i64 x.parent):=bcell hx5 1
   have z2:w5.cell? ⟨wr.heap.size,2,none⟩=some (.string x.name):=bcell hx5 2
   have z3:w5.cell? ⟨wr.heap.size,3,none⟩=some (.int .i64 x.arg):=bcell hx5 3
   have z4:w5.cell? ⟨wr.heap.size,4,none⟩=some (.slice a2 x.cond.length c2):=bcell hx5 4
   have z5:w5.cell? ⟨wr.heap.size,5,none⟩=some (.slice a3 x.expr.length c3):=bcell hx5 5
   obtain ⟨C,E,hF⟩:=HO.out
   have HEF:=hid hF
   have HBA:Hid (Below wr.heap.size wr (w5.alloc (.cells #[.int .i64 x.kind,.int .i64 x.parent,.string x.name,.int .i64 x.arg,.slice a2 x.cond.length c2,.slice a3 x.expr.length c3] 164))):=hid (hb5.alloc (by omega) _)
   have HRX:=hid (Nst.own_kept hF.row (fun b hb=>HBA.out.block b (Nst.own_lt hF.row hb).2))
   have HN2:=hid (hoc5.alloc (.cells #[.int .i64 x.kind,.int .i64 x.parent,.string x.name,.int .i64 x.arg,.slice a2 x.cond.length c2,.slice a3 x.expr.length c3] 164))
   have HN3:=hid (ho5.alloc (.cells #[.int .i64 x.kind,.int .i64 x.parent,.string x.name,.int .i64 x.arg,.slice a2 x.cond.length c2,.slice a3 x.expr.length c3] 164))
   have HN4:=hid hce
   have HROW:Hid (Ap.Row (w5.alloc (.cells #[.int .i64 x.kind,.int .i64 x.parent,.string x.name,.int .i64 x.arg,.slice a2 x.cond.length c2,.slice a3 x.expr.length c3] 164)) 6 (.slice (some ⟨w5.heap.size,0,none⟩) 1 1) 1 [.int .i64 x.kind,.int .i64 x.parent,.string x.name,.int .i64 x.arg,.slice a2 x.cond.length c2,.slice a3 x.expr.length c3]):=hid ⟨_,_,rfl,rfl,(by simp [Value.oneCell']),.inr ⟨_,rfl,So.news #[.int .i64 x.kind,.int .i64 x.parent,.string x.name,.int .i64 x.arg,.slice a2 x.cond.length c2,.slice a3 x.expr.length c3] _ _ rfl⟩⟩
   have hz0:wr.heap.size<w0.heap.size:=zl
   clear hF hoc5 ho5 hce hb5 hx5 HO
   go_wp2_with (at_builtin;go_must (refine Ap.wpList_any _ rfl _ _ 87 rfl w.heap.size 164 j6 (.agg #[.int .i64 0,.int .i64 0,.string ⟨#[]⟩,.int .i64 0,.slice none 0 0,.slice none 0 0]) 6 88 Tryz.underlying87 hj6 hy60 hy61 hy62 rfl (by decide) _ _ _ rfl HRX.out _ _ _ rfl HROW.out (by unfold maxLen;omega) (by omega) (by simp;omega) _ rfl ?_);intro a9 c9 w9 hown9 hg9 hat9)
   have HO9:Hid (SOwn w9 w.heap.size (.slice a9 (L.length+1) c9) (L++[x])):=hid (So.push_at HEF.out lw (fun b _ hb=>HBA.out.block b hb) (by simp;omega) (Nst.own_mono HN2.out (by omega)) (Nst.own_mono HN3.out (by omega)) HN4.out hown9 hg9 hat9)
   have HB9:Hid (Below w.heap.size w w9):=hid ((HB.out.trans (HBA.out.mono lw)).grown hg9 (by simp;omega) (fun b e=>(Nst.own_lt HRX.out e).1))
   clear hown9 hg9 hat9
   go_wp2
   exact ⟨⟨j+1,by simp,by omega,⟨_,_,_,rfl⟩,hid (by rw [HTS.out];exact HO9.out),HB9⟩,by simp [intOf];omega⟩
  ·have q1:¬(j:Int)<(ss.length:Int):=by omega
   have hjn:j=ss.length:=by omega
   have HO1:Hid (SOwn wr w.heap.size (.slice a7 n7 c7) ss):=hid (by
    have:=HO.out
    rw [hjn,List.take_length] at this
    exact this)
   clear HO hjn
   go_wp2
   go_ret
   exact ⟨⟨_,rfl,HO1.out⟩,HB.out⟩
end Cw
end Go.Proofs.YtccklgopcjilcaaGreatDoor
