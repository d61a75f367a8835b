/- Laid together: DmJ, DcX, DcA, DmL, DcB. -/
import Derived.Test.YtccklgopcjilcaaGreatDoorJCT27
import Derived.Deep.RegionHeld3
import Derived.Test.YtccklgopcjilcaaGreatDoorJCT24
import Derived.DeepKeys3
import Derived.Maps.Range
import Derived.Below
/- The program's fault of a claim. -/
namespace Go.Proofs.YtccklgopcjilcaaGreatDoor
open Go.RowKit Go.Deep
set_option linter.unusedVariables false
set_option linter.unusedSimpArgs false
namespace Dk
open En (EngD)
open Cl (ClD)
open Eg (engC)
open Ex (inR hid)
open Ch (blk_cell blk_lt new_blk new_at)
set_option maxRecDepth 100000 in
set_option maxHeartbeats 8000000 in
theorem implClaimFault (e:EngD) (vp vi:Value) (c:ClD) (B:Nat) (w:World) (hs:En.Small 1048576 e) (ha:En.At w B vp vi e) (hk:engC e=0):
    Calls Tryz.prog 150 #[.agg #[vp,vi,.int .i64 e.now],.agg #[.int .i64 c.inst,.int .i64 c.step,.int .i64 c.user]] w fun z w'=>z=.returned (.int .i64 (oneC e c))∧Below w.heap.size w w':=by
 obtain ⟨a1,k1,rfl⟩:=ha.procs.slice
 obtain ⟨a2,k2,rfl⟩:=ha.insts.slice
 have hl2:=hs.insts.1
 obtain ⟨w0,e0⟩:∃w0,w0=(w.alloc (.cells #[.slice a1 e.procs.length k1,.slice a2 e.insts.length k2,.int .i64 e.now] 27)).alloc (.cells #[.int .i64 c.inst,.int .i64 c.step,.int .i64 c.user] 143):=⟨_,rfl⟩
 have hb0:Below w.heap.size w w0:=by rw [e0];exact ((Below.refl _ w).alloc (Nat.le_refl _) _).alloc (by simp) _
 have HK0:Hid (w0.heap[w.heap.size]?=some (.cells #[.slice a1 e.procs.length k1,.slice a2 e.insts.length k2,.int .i64 e.now] 27)∧w0.heap[w.heap.size+1]?=some (.cells #[.int .i64 c.inst,.int .i64 c.step,.int .i64 c.user] 143)):=hid ⟨by rw [e0,Below.heap_alloc _ _ _ (by simp),new_blk],by rw [e0];exact new_at (by simp) _⟩
 have HH:=hid (implHasInst e _ _ c.inst B w0 (by omega) (ha.below hb0))
 have HA:=hid (ha.below hb0)
 have HB0:=hid hb0
 have HS:=hid hs
 have HKE:=hid hk
 obtain ⟨zz,hzz⟩:∃zz,oneC e c=zz:=⟨_,rfl⟩
 rw [hzz]
 have HZ:=hid hzz
 clear ha hb0 hs hk hzz
 go_enter Tryz.func150,Tryz.ntmps150
 go_wp2_with fail
 rw [←e0]
 clear e0
 refine HH.out.mono ?_
 rintro z w1 ⟨rfl,hb1⟩
 have HB1:=hid (HB0.out.trans (hb1.mono HB0.out.size))
 have HK1:Hid (w1.heap[w.heap.size]?=some (.cells #[.slice a1 e.procs.length k1,.slice a2 e.insts.length k2,.int .i64 e.now] 27)∧w1.heap[w.heap.size+1]?=some (.cells #[.int .i64 c.inst,.int .i64 c.step,.int .i64 c.user] 143)):=hid ⟨(hb1.block _ (blk_lt HK0.out.1)).trans HK0.out.1,(hb1.block _ (blk_lt HK0.out.2)).trans HK0.out.2⟩
 have HA1:=hid (HA.out.below hb1)
 clear hb1 HK0 HA HH HB0
 cases hx:hasI e c.inst
 ·have HE:Hid (zz=3):=hid (HZ.out.symm.trans (one_range (by rw [hx,Bool.false_and])))
  go_wp2
  go_ret
  exact ⟨by rw [HE.out];rfl,HB1.out⟩
 have m2:=blk_cell HK1.out.2 2
 replace m2:w1.cell? ⟨w.heap.size+1,2,none⟩=some (.int .i64 c.user):=m2
 have ml:=blk_lt HK1.out.2
 go_wp2_with fail
 refine (implIsUser c.user _).mono ?_
 rintro z w2 ⟨rfl,hw2⟩
 replace hw2:=hw2.symm
 subst hw2
 clear m2 ml
 cases hu:isU c.user
 ·have HE:Hid (zz=3):=hid (HZ.out.symm.trans (one_range (by rw [hx,hu];rfl)))
  clear hx hu
  go_wp2
  go_ret
  exact ⟨by rw [HE.out];rfl,HB1.out⟩
 have hxu:(hasI e c.inst&&isU c.user)=true:=by rw [hx,hu];rfl
 obtain ⟨i0,i1,i2⟩:=hasI_in hx
 have HO:=hid (fun w' (hb:Below w1.heap.size w1 w')=>implIsOpen e _ _ c.inst.toNat c.step B w' HS.out (HA1.out.below hb) i1 HKE.out)
 have ei:((c.inst.toNat:Nat):Int)=c.inst:=Int.toNat_of_nonneg i0
 rw [ei] at HO
 clear hx hu ei i0 i1 i2
 cases ho:openT e c.inst c.step
 ·have HE:Hid (zz=4):=hid (HZ.out.symm.trans (one_none hxu ho))
  rw [ho] at HO
  clear ho hxu HZ
  have HKd:Hid (w1.drew.heap[w.heap.size]?=some (.cells #[.slice a1 e.procs.length k1,.slice a2 e.insts.length k2,.int .i64 e.now] 27)∧w1.drew.heap[w.heap.size+1]?=some (.cells #[.int .i64 c.inst,.int .i64 c.step,.int .i64 c.user] 143)):=hid HK1.out
  have hBd:Below w1.heap.size w1 w1.drew:=(Below.refl _ w1).drew
  go_wp2
  refine wp_region_held_drew (S:=fun wx=>wx.heap[w.heap.size]?=some (.cells #[.slice a1 e.procs.length k1,.slice a2 e.insts.length k2,.int .i64 e.now] 27)∧wx.heap[w.heap.size+1]?=some (.cells #[.int .i64 c.inst,.int .i64 c.step,.int .i64 c.user] 143)) (by kernel_rfl) HKd.out (fun hHeld=>?_)
  refine wpAnyH_take (i:=0) (v:=.agg #[.int .i64 c.inst,.int .i64 c.step,.int .i64 c.user]) rfl (by kernel_rfl) (by kernel_rfl) (by kernel_rfl) (fun _ _ _ h=>h) (Or.inl ⟨by kernel_rfl,by intro w hSw;(try dsimp only at hSw);obtain ⟨h1,h2⟩:=hSw;have m0:=Ch.blk_cell h2 0;have m1:=Ch.blk_cell h2 1;have m2:=Ch.blk_cell h2 2;clear h1 h2;go_simp⟩) (by assumption) ?_
  simp only [Act.put,List.setIfInBounds_toArray,List.set_cons_zero,List.set_cons_succ]
  refine wpAnyH_take (i:=2) (v:=.agg #[.slice a1 e.procs.length k1,.slice a2 e.insts.length k2,.int .i64 e.now]) rfl (by kernel_rfl) (by kernel_rfl) (by kernel_rfl) (fun _ _ _ h=>h) (Or.inl ⟨by kernel_rfl,by intro w hSw;(try dsimp only at hSw);obtain ⟨h1,h2⟩:=hSw;have m0:=Ch.blk_cell h1 0;have m1:=Ch.blk_cell h1 1;have m2:=Ch.blk_cell h1 2;clear h1 h2;go_simp⟩) (by assumption) ?_
  simp only [Act.put,List.setIfInBounds_toArray,List.set_cons_zero,List.set_cons_succ]
  refine wpAnyH_ready (rs:=[1]) (by kernel_rfl) (by simp) ?_
  refine AllReadyH.cons rfl (fun K hK=>?_) AllReadyH.nil
  go_simp
  go_at_call 151
  refine (implPlace c.inst c.step c.user _).mono ?_
  rintro z w3 ⟨rfl,hb3⟩
  have hb3:Below w1.heap.size w1 w3:=hBd.trans (hb3.mono hBd.size)
  have HK3:Hid (w3.heap[w.heap.size]?=some (.cells #[.slice a1 e.procs.length k1,.slice a2 e.insts.length k2,.int .i64 e.now] 27)∧w3.heap[w.heap.size+1]?=some (.cells #[.int .i64 c.inst,.int .i64 c.step,.int .i64 c.user] 143)):=hid ⟨(hb3.block _ (blk_lt HK1.out.1)).trans HK1.out.1,(hb3.block _ (blk_lt HK1.out.2)).trans HK1.out.2⟩
  have HB3:=hid hb3
  clear hb3
  go_wp2_with fail
  refine hK.out _ _ HK3.out (fun hHeld=>?_)
  clear hK K
  try simp only [Act.put,List.setIfInBounds_toArray,List.set_cons_zero,List.set_cons_succ]
  refine wpAnyH_ready (rs:=[3]) (by kernel_rfl) (by simp) ?_
  refine AllReadyH.cons rfl (fun K hK=>?_) AllReadyH.nil
  go_simp
  go_at_call 133
  refine (HO.out w3 HB3.out).mono ?_
  rintro z w4 ⟨rfl,hb4⟩
  have HK4:Hid (w4.heap[w.heap.size]?=some (.cells #[.slice a1 e.procs.length k1,.slice a2 e.insts.length k2,.int .i64 e.now] 27)∧w4.heap[w.heap.size+1]?=some (.cells #[.int .i64 c.inst,.int .i64 c.step,.int .i64 c.user] 143)):=hid ⟨(hb4.block _ (blk_lt HK3.out.1)).trans HK3.out.1,(hb4.block _ (blk_lt HK3.out.2)).trans HK3.out.2⟩
  have HB4:=hid (HB3.out.trans (hb4.mono HB3.out.size))
  clear hb4
  go_wp2_with fail
  refine hK.out _ _ HK4.out (fun hHeld=>?_)
  clear hK K
  try simp only [Act.put,List.setIfInBounds_toArray,List.set_cons_zero,List.set_cons_succ]
  refine wpAnyH_take (i:=4) (v:=.bool true) rfl (by kernel_rfl) (by kernel_rfl) (by kernel_rfl) (fun _ _ _ h=>h) (Or.inl ⟨by kernel_rfl,by intro w hSw;(try dsimp only at hSw);go_simp⟩) (by assumption) ?_
  simp only [Act.put,List.setIfInBounds_toArray,List.set_cons_zero,List.set_cons_succ]
  refine wpAnyH_done (by kernel_rfl) ?_ _
  clear hHeld HK1 HK3 HK4 HKd
  go_wp2
  go_ret
  exact ⟨by rw [HE.out];rfl,HB1.out.trans (HB4.out.mono HB1.out.size)⟩
 ·have HE:Hid (zz=0):=hid (HZ.out.symm.trans (one_ok hxu ho))
  rw [ho] at HO
  clear ho hxu HZ
  have HKd:Hid (w1.drew.heap[w.heap.size]?=some (.cells #[.slice a1 e.procs.length k1,.slice a2 e.insts.length k2,.int .i64 e.now] 27)∧w1.drew.heap[w.heap.size+1]?=some (.cells #[.int .i64 c.inst,.int .i64 c.step,.int .i64 c.user] 143)):=hid HK1.out
  have hBd:Below w1.heap.size w1 w1.drew:=(Below.refl _ w1).drew
  go_wp2
  refine wp_region_held_drew (S:=fun wx=>wx.heap[w.heap.size]?=some (.cells #[.slice a1 e.procs.length k1,.slice a2 e.insts.length k2,.int .i64 e.now] 27)∧wx.heap[w.heap.size+1]?=some (.cells #[.int .i64 c.inst,.int .i64 c.step,.int .i64 c.user] 143)) (by kernel_rfl) HKd.out (fun hHeld=>?_)
  refine wpAnyH_take (i:=0) (v:=.agg #[.int .i64 c.inst,.int .i64 c.step,.int .i64 c.user]) rfl (by kernel_rfl) (by kernel_rfl) (by kernel_rfl) (fun _ _ _ h=>h) (Or.inl ⟨by kernel_rfl,by intro w hSw;(try dsimp only at hSw);obtain ⟨h1,h2⟩:=hSw;have m0:=Ch.blk_cell h2 0;have m1:=Ch.blk_cell h2 1;have m2:=Ch.blk_cell h2 2;clear h1 h2;go_simp⟩) (by assumption) ?_
  simp only [Act.put,List.setIfInBounds_toArray,List.set_cons_zero,List.set_cons_succ]
  refine wpAnyH_take (i:=2) (v:=.agg #[.slice a1 e.procs.length k1,.slice a2 e.insts.length k2,.int .i64 e.now]) rfl (by kernel_rfl) (by kernel_rfl) (by kernel_rfl) (fun _ _ _ h=>h) (Or.inl ⟨by kernel_rfl,by intro w hSw;(try dsimp only at hSw);obtain ⟨h1,h2⟩:=hSw;have m0:=Ch.blk_cell h1 0;have m1:=Ch.blk_cell h1 1;have m2:=Ch.blk_cell h1 2;clear h1 h2;go_simp⟩) (by assumption) ?_
  simp only [Act.put,List.setIfInBounds_toArray,List.set_cons_zero,List.set_cons_succ]
  refine wpAnyH_ready (rs:=[1]) (by kernel_rfl) (by simp) ?_
  refine AllReadyH.cons rfl (fun K hK=>?_) AllReadyH.nil
  go_simp
  go_at_call 151
  refine (implPlace c.inst c.step c.user _).mono ?_
  rintro z w3 ⟨rfl,hb3⟩
  have hb3:Below w1.heap.size w1 w3:=hBd.trans (hb3.mono hBd.size)
  have HK3:Hid (w3.heap[w.heap.size]?=some (.cells #[.slice a1 e.procs.length k1,.slice a2 e.insts.length k2,.int .i64 e.now] 27)∧w3.heap[w.heap.size+1]?=some (.cells #[.int .i64 c.inst,.int .i64 c.step,.int .i64 c.user] 143)):=hid ⟨(hb3.block _ (blk_lt HK1.out.1)).trans HK1.out.1,(hb3.block _ (blk_lt HK1.out.2)).trans HK1.out.2⟩
  have HB3:=hid hb3
  clear hb3
  go_wp2_with fail
  refine hK.out _ _ HK3.out (fun hHeld=>?_)
  clear hK K
  try simp only [Act.put,List.setIfInBounds_toArray,List.set_cons_zero,List.set_cons_succ]
  refine wpAnyH_ready (rs:=[3]) (by kernel_rfl) (by simp) ?_
  refine AllReadyH.cons rfl (fun K hK=>?_) AllReadyH.nil
  go_simp
  go_at_call 133
  refine (HO.out w3 HB3.out).mono ?_
  rintro z w4 ⟨rfl,hb4⟩
  have HK4:Hid (w4.heap[w.heap.size]?=some (.cells #[.slice a1 e.procs.length k1,.slice a2 e.insts.length k2,.int .i64 e.now] 27)∧w4.heap[w.heap.size+1]?=some (.cells #[.int .i64 c.inst,.int .i64 c.step,.int .i64 c.user] 143)):=hid ⟨(hb4.block _ (blk_lt HK3.out.1)).trans HK3.out.1,(hb4.block _ (blk_lt HK3.out.2)).trans HK3.out.2⟩
  have HB4:=hid (HB3.out.trans (hb4.mono HB3.out.size))
  clear hb4
  go_wp2_with fail
  refine hK.out _ _ HK4.out (fun hHeld=>?_)
  clear hK K
  try simp only [Act.put,List.setIfInBounds_toArray,List.set_cons_zero,List.set_cons_succ]
  refine wpAnyH_take (i:=4) (v:=.bool false) rfl (by kernel_rfl) (by kernel_rfl) (by kernel_rfl) (fun _ _ _ h=>h) (Or.inl ⟨by kernel_rfl,by intro w hSw;(try dsimp only at hSw);go_simp⟩) (by assumption) ?_
  simp only [Act.put,List.setIfInBounds_toArray,List.set_cons_zero,List.set_cons_succ]
  refine wpAnyH_done (by kernel_rfl) ?_ _
  clear hHeld HK1 HK3 HK4 HKd
  go_wp2
  go_ret
  exact ⟨by rw [HE.out];rfl,HB1.out.trans (HB4.out.mono HB1.out.size)⟩
end Dk
end Go.Proofs.YtccklgopcjilcaaGreatDoor
/- Maps whose keys are pairs of numbers, by the list of their entries in the order in which they were laid. -/
namespace Go.Proofs.YtccklgopcjilcaaGreatDoor
open Go.RowKit
set_option linter.unusedVariables false
namespace Mp
open Go.ChangeMaps (setBlock heap_setBlock_same heap_setBlock_other)
open Go.MapKept (Stamped stamped_push)
def kv (p:Int × Int):Value:=.agg #[.int .i64 p.1,.int .i64 p.2]
theorem kv_inj {p q:Int × Int} (h:kv p=kv q):p=q:=by
 obtain ⟨a,b⟩:=p
 obtain ⟨c,d⟩:=q
 simp [kv] at h
 rw [h.1,h.2]
def Rg (p:Int × Int):Prop:=(0≤p.1∧p.1<1000000000000000)∧0≤p.2∧p.2<1000000000000000
abbrev Ent:=(Int × Int) × Value
def At (w:World) (b:Nat) (E:List Ent):Prop:=∃es clock,w.heap[b]?=some (.map es clock)∧Stamped es clock∧es.toList.map (fun x=>(x.key,x.val))=E.map (fun p=>(kv p.1,p.2))∧∀p∈E,Rg p.1
theorem At.keep {w w':World} {b:Nat} {E:List Ent} (h:At w b E) (hb:w'.heap[b]?=w.heap[b]?):At w' b E:=by
 obtain ⟨es,clock,h1,h2⟩:=h
 exact ⟨es,clock,hb.trans h1,h2⟩
theorem At.lt {w:World} {b:Nat} {E:List Ent} (h:At w b E):b<w.heap.size:=by
 obtain ⟨es,clock,h1,_⟩:=h
 exact (Array.getElem?_eq_some_iff.1 h1).1
theorem At.nil {w:World} {b clock:Nat} (h:w.heap[b]?=some (.map #[] clock)):At w b []:=⟨#[],clock,h,⟨fun x hx=>by simp at hx,by simp,by simp⟩,rfl,fun p hp=>by cases hp⟩
theorem At.keys {w:World} {b:Nat} {E:List Ent} (h:At w b E):(E.map (·.1)).Nodup:=by
 obtain ⟨es,clock,_,⟨_,_,h3⟩,h4,_⟩:=h
 have e:(es.toList.map (fun x=>(x.key,x.val))).map (·.1)=es.toList.map (·.key):=by simp [Function.comp_def]
 rw [h4,List.map_map] at e
 rw [←e] at h3
 have e2:List.map ((fun x:Value × Value=>x.1) ∘ fun p:Ent=>(kv p.1,p.2)) E=(E.map (·.1)).map kv:=by simp [Function.comp_def]
 rw [e2] at h3
 exact (List.pairwise_map.1 h3).imp (fun hne e=>hne (by rw [e]))
theorem keyType:Tryz.prog.keyType 147=true:=by kernel_rfl
theorem cellsK:Tryz.prog.cellsOf 147=2:=by kernel_rfl
theorem uK:(match Tryz.prog.underlying 147 with | some (.array _ _) | some (.struct _)=>true | _=>false)=true:=by kernel_rfl
theorem law:Go.WideMaps.KeyLaw Tryz.prog 147:=deep_law (m:=2) (by omega) (by kernel_rfl) (by kernel_rfl) (by kernel_rfl)
theorem lits (a b:Int) (ha:(Lit.int .i64 a).wf=true) (hb:(Lit.int .i64 b).wf=true) (m:Nat):∃l,Tryz.prog.keyLits (m+1+1) 147 [.int .i64 a,.int .i64 b]=some l:=by
 have hu:(Tryz.prog.underlying 147).map (fun d=>match d with | .struct fs=>fs.toList.map (fun f=>(f.name,f.type,f.offset)) | _=>[])=some [("inst",2,0),("step",2,1)]:=by kernel_rfl
 have hi:Tryz.prog.underlying 2=some (.int .i64):=by kernel_rfl
 have hci:Tryz.prog.cellsOf 2=1:=by kernel_rfl
 cases hd:Tryz.prog.underlying 147 with
 | none=>rw [hd] at hu;simp at hu
 | some d=>
  rw [hd] at hu
  simp only [Option.map_some,Option.some.injEq] at hu
  cases d <;> try (cases hu;done)
  rename_i fs
  obtain ⟨fs⟩:=fs
  obtain ⟨f0,r0,e0,h0,hu⟩:=List.map_eq_cons_iff.1 hu
  obtain ⟨f1,r1,e1,h1,hu⟩:=List.map_eq_cons_iff.1 hu
  obtain rfl:=List.map_eq_nil_iff.1 hu
  subst e1
  have e0':fs=[f0,f1]:=e0
  subst e0'
  simp only [Prod.mk.injEq] at h0 h1
  obtain ⟨n0,t0,o0⟩:=h0
  obtain ⟨n1,t1,o1⟩:=h1
  unfold Program.keyLits
  simp only [hd]
  rw [if_pos ⟨by rw [cellsK];rfl,by simp [n0,n1]⟩]
  simp [t0,t1,o0,o1,hci,Program.keyLits,hi,ha,hb]
theorem wf {x:Int} (h:0≤x∧x<1000000000000000):(Lit.int .i64 x).wf=true:=by
 simp [Lit.wf,IntKind.min,IntKind.max,IntKind.bits,IntKind.signed]
 omega
theorem key {p:Int × Int} (h:Rg p):∃l,keyOf Tryz.prog 147 (kv p)=some l:=by
 have hts:Tryz.prog.types.size=363:=by kernel_rfl
 obtain ⟨ls,hl⟩:=lits p.1 p.2 (wf h.1) (wf h.2) (363 - 1)
 obtain ⟨q,hq⟩:∃q,(363 - 1+1+1:Nat)=q:=⟨_,rfl⟩
 rw [hq] at hl
 have hk:=keyType
 have hc:=cellsK
 have hu:=uK
 cases hd:Tryz.prog.underlying 147 with
 | none=>rw [hd] at hu;cases hu
 | some d=>
  rw [hd] at hu
  refine ⟨.string (keyBytes ls),?_⟩
  unfold keyOf
  rw [hd,hts,show (363+1:Nat)=q from hq]
  clear hq
  cases d <;> simp at hu <;> simp [hk,Value.formed,hd,hc,kv,Value.cells,hl]
theorem At.find {w:World} {b:Nat} {E:List Ent} {es:Array MapEntry} (he:es.toList.map (fun x=>(x.key,x.val))=E.map (fun p=>(kv p.1,p.2))) (hr:∀p∈E,Rg p.1):∀e∈es.toList,∃l,keyOf Tryz.prog 147 e.key=some l:=fun e hm=>by
 have:(e.key,e.val)∈E.map (fun p=>(kv p.1,p.2)):=by rw [←he];exact List.mem_map.2 ⟨e,hm,rfl⟩
 obtain ⟨p,hp,e2⟩:=List.mem_map.1 this
 simp at e2
 rw [←e2.1]
 exact key (hr p hp)
theorem At.put {w:World} {b:Nat} {E:List Ent} {p:Int × Int} (h:At w b E) (hp:Rg p) (hn:p ∉ E.map (·.1)) (v:Value):
    ∃o,(Instr.mapUpdate 149 (.map (some b)) (kv p) v).run Tryz.prog w=.ok () (setBlock w b o)∧At (setBlock w b o) b (E++[(p,v)])∧(∀i,i≠b→(setBlock w b o).heap[i]?=w.heap[i]?)∧(setBlock w b o).heap.size=w.heap.size:=by
 have ht:Tryz.prog.underlying 149=some (.map 147 2):=by kernel_rfl
 obtain ⟨es,clock,hb,hs,he,hr⟩:=h
 obtain ⟨l,hl⟩:=key hp
 have hne:∀e∈es.toList,e.key≠kv p:=fun e hm e2=>by
  have:(e.key,e.val)∈E.map (fun p=>(kv p.1,p.2)):=by rw [←he];exact List.mem_map.2 ⟨e,hm,rfl⟩
  obtain ⟨q,hq,e3⟩:=List.mem_map.1 this
  simp at e3
  rw [←e3.1] at e2
  exact hn (List.mem_map.2 ⟨q,hq,kv_inj e2⟩)
 rcases law.find w hl es.toList (At.find (w:=w) (b:=b) he hr) with ⟨h1,_⟩ | ⟨j,e,h1,h2,h3⟩
 ·refine ⟨.map (es.push ⟨kv p,v,clock⟩) (clock+1),?_,⟨_,_,heap_setBlock_same hb _,stamped_push hs hne,?_,?_⟩,fun i hi=>heap_setBlock_other hb _ hi,by simp [setBlock]⟩
  ·simp [Instr.mapUpdate,run_underlying ht,MapKept.run_getObj_map hb,law.check w false hl,h1,MapKept.run_setObj_map _ hb,Result.andThen,setBlock]
  ·simp [he]
  ·intro q hq
   rcases List.mem_append.1 hq with hq | hq
   ·exact hr q hq
   ·simp at hq
    rw [hq]
    exact hp
 ·exact absurd h3 (hne e (List.mem_of_getElem? h2))
theorem At.get {w:World} {b:Nat} {E:List Ent} {p:Int × Int} {v:Value} (h:At w b E) (hm:(p,v)∈E):
    (Instr.lookup 149 (.map (some b)) (kv p) false).run Tryz.prog w=.ok v w:=by
 have ht:Tryz.prog.underlying 149=some (.map 147 2):=by kernel_rfl
 have hk:=h.keys
 obtain ⟨es,clock,hb,hs,he,hr⟩:=h
 obtain ⟨l,hl⟩:=key (hr _ hm)
 have hin:(kv p,v)∈es.toList.map (fun x=>(x.key,x.val)):=by rw [he];exact List.mem_map.2 ⟨(p,v),hm,rfl⟩
 obtain ⟨e0,hm0,e1⟩:=List.mem_map.1 hin
 simp at e1
 rcases law.find w hl es.toList (At.find (w:=w) (b:=b) he hr) with ⟨_,h2⟩ | ⟨j,e,h1,h2,h3⟩
 ·exact absurd e1.1 (h2 e0 hm0)
 ·have hme:=List.mem_of_getElem? h2
  have:e=e0:=entry_eq_of_key (((MapKept.stamped_iff es clock).1 hs).2.2) hme hm0 (h3.trans e1.1.symm)
  simp [Instr.lookup,run_underlying ht,MapKept.run_getObj_map hb,law.check w _ hl,h1,Result.andThen,this,e1.2]
theorem At.getno {w:World} {b:Nat} {E:List Ent} {p:Int × Int} (h:At w b E) (hp:Rg p) (hn:p ∉ E.map (·.1)):
    (Instr.lookup 149 (.map (some b)) (kv p) false).run Tryz.prog w=.ok (.int .i64 0) w:=by
 have ht:Tryz.prog.underlying 149=some (.map 147 2):=by kernel_rfl
 obtain ⟨es,clock,hb,hs,he,hr⟩:=h
 obtain ⟨l,hl⟩:=key hp
 have hne:∀e∈es.toList,e.key≠kv p:=fun e hm e2=>by
  have:(e.key,e.val)∈E.map (fun p=>(kv p.1,p.2)):=by rw [←he];exact List.mem_map.2 ⟨e,hm,rfl⟩
  obtain ⟨q,hq,e3⟩:=List.mem_map.1 this
  simp at e3
  rw [←e3.1] at e2
  exact hn (List.mem_map.2 ⟨q,hq,kv_inj e2⟩)
 rcases law.find w hl es.toList (At.find (w:=w) (b:=b) he hr) with ⟨h1,_⟩ | ⟨j,e,h1,h2,h3⟩
 ·simp [Instr.lookup,run_underlying ht,MapKept.run_getObj_map hb,law.check w _ hl,h1,Result.andThen]
 ·exact absurd h3 (hne e (List.mem_of_getElem? h2))
end Mp
end Go.Proofs.YtccklgopcjilcaaGreatDoor
/- The program's order of places of tasks: cmp.Compare and cmp.Or. -/
namespace Go.Proofs.YtccklgopcjilcaaGreatDoor
open Go.RowKit
set_option linter.unusedVariables false
namespace Gr
open Ex (hid)
def cmpI (x y:Int):Int:=if x<y then -1 else if y<x then 1 else 0
def cmpE (x y:Int × Int):Int:=if cmpI x.1 y.1≠0 then cmpI x.1 y.1 else cmpI x.2 y.2
theorem cmpI_lt {x y:Int}:cmpI x y<0↔x<y:=by
 unfold cmpI
 by_cases h:x<y
 ·simp [h]
 ·by_cases h2:y<x <;> simp [h,h2]
theorem cmpI_zero {x y:Int}:cmpI x y=0↔x=y:=by
 unfold cmpI
 by_cases h:x<y
 ·simp [h];omega
 ·by_cases h2:y<x
  ·simp [h,h2];omega
  ·simp [h,h2];omega
theorem cmpE_lt {x y:Int × Int}:cmpE x y<0↔x.1<y.1∨(x.1=y.1∧x.2<y.2):=by
 unfold cmpE
 by_cases h:cmpI x.1 y.1=0
 ·rw [if_neg (by simp [h]),cmpI_lt]
  have:=cmpI_zero.1 h
  omega
 ·rw [if_pos h,cmpI_lt]
  have:¬x.1=y.1:=fun e=>h (cmpI_zero.2 e)
  omega
set_option maxRecDepth 100000 in
set_option maxHeartbeats 400000 in
theorem implNaN (x:Int) (w:World):Calls Tryz.prog 214 #[.int .i64 x] w fun e w'=>e=.returned (.bool false)∧w'=w:=by
 go_enter Tryz.func214,Tryz.ntmps214
 go_wp2
 go_ret
 exact ⟨by simp,rfl⟩
set_option maxRecDepth 100000 in
set_option maxHeartbeats 1000000 in
theorem implCompare (x y:Int) (w:World):Calls Tryz.prog 176 #[.int .i64 x,.int .i64 y] w fun e w'=>e=.returned (.int .i64 (cmpI x y))∧w'=w:=by
 by_cases h1:x<y
 ·have HV:Hid (cmpI x y=-1):=hid (by unfold cmpI;rw [if_pos h1])
  go_enter Tryz.func176,Tryz.ntmps176
  go_wp2_with (go_at_call 214;refine (implNaN _ _).mono ?_;rintro e w' ⟨rfl,rfl⟩)
  go_ret
  exact ⟨by rw [HV.out];rfl,rfl⟩
 by_cases h2:y<x
 ·have HV:Hid (cmpI x y=1):=hid (by unfold cmpI;rw [if_neg h1,if_pos h2])
  go_enter Tryz.func176,Tryz.ntmps176
  go_wp2_with (go_at_call 214;refine (implNaN _ _).mono ?_;rintro e w' ⟨rfl,rfl⟩)
  go_ret
  exact ⟨by rw [HV.out];rfl,rfl⟩
 ·have HV:Hid (cmpI x y=0):=hid (by unfold cmpI;rw [if_neg h1,if_neg h2])
  go_enter Tryz.func176,Tryz.ntmps176
  go_wp2_with (go_at_call 214;refine (implNaN _ _).mono ?_;rintro e w' ⟨rfl,rfl⟩)
  go_ret
  exact ⟨by rw [HV.out];rfl,rfl⟩
end Gr
end Go.Proofs.YtccklgopcjilcaaGreatDoor
/- The claims of a desk, plainly: they rise, so no place comes twice; the entries of their table. -/
namespace Go.Proofs.YtccklgopcjilcaaGreatDoor
open Go.RowKit Go.Deep
set_option linter.unusedVariables false
namespace Dk
open En (EngD)
open Cl (ClD)
open Eg (engC stepsD hasP_in stepsD_eq)
open Ex (inR)
open Gr (cmpE cmpE_lt)
theorem ahead_iff {a b:ClD}:aheadC a b=true↔a.inst<b.inst∨(a.inst=b.inst∧a.step<b.step):=by
 unfold aheadC;simp
theorem ahead_cmp {a b:ClD}:aheadC a b=true↔cmpE (a.inst,a.step) (b.inst,b.step)<0:=ahead_iff.trans (cmpE_lt (x:=(a.inst,a.step)) (y:=(b.inst,b.step))).symm
theorem ahead_trans {a b c:ClD} (h:aheadC a b=true) (h2:aheadC b c=true):aheadC a c=true:=by
 rw [ahead_iff] at *;omega
theorem rise {e:EngD} {cs:List ClD} {n:Nat} (h:∀j,j<n→claimC e cs j=0) (i:Nat):∀j,i<j→j<n→aheadC (CJ cs i) (CJ cs j)=true
 | 0,h1,_=>by omega
 | j+1,h1,h2=>by
  have a1:=(of_claim (h (j+1) h2)).2 (by omega)
  rw [Nat.add_sub_cancel] at a1
  by_cases e:i=j
  ·rw [e];exact a1
  ·exact ahead_trans (rise h i j (by omega) (by omega)) a1
def ent (c:ClD):Mp.Ent:=((c.inst,c.step),.int .i64 c.user)
def ents (cs:List ClD):List Mp.Ent:=cs.map ent
theorem ents_take {cs:List ClD} {k:Nat} (h:k<cs.length):ents (cs.take (k+1))=ents (cs.take k)++[((cs[k].inst,cs[k].step),.int .i64 cs[k].user)]:=by
 unfold ents
 rw [List.take_succ_eq_append_getElem h,List.map_append];rfl
theorem fresh {e:EngD} {cs:List ClD} {k:Nat} (hk:k<cs.length) (h:∀j,j<k+1→claimC e cs j=0):(cs[k].inst,cs[k].step) ∉ (ents (cs.take k)).map (·.1):=by
 intro hm
 obtain ⟨p,hp,hpe⟩:=List.mem_map.1 hm
 unfold ents at hp
 obtain ⟨c,hc,rfl⟩:=List.mem_map.1 hp
 obtain ⟨j,hj,rfl⟩:=List.getElem_of_mem hc
 have hj2:j<k:=by rw [List.length_take] at hj;omega
 have hr:=rise h j k hj2 (by omega)
 rw [CJ_eq (show j<cs.length by omega),CJ_eq hk,ahead_iff] at hr
 rw [List.getElem_take] at hpe
 simp only [ent,Prod.mk.injEq] at hpe
 omega
theorem open_len {e:EngD} (hs:En.Small 1048576 e) (hk:engC e=0) {i s:Int} (hi:hasI e i=true) (h:openT e i s=true):(0≤i∧i<1048577)∧0≤s∧s<1048577:=by
 obtain ⟨i0,i1,i2⟩:=hasI_in hi
 obtain ⟨s0,s1⟩:=open_lt h
 rw [instD_eq i1] at s1
 obtain ⟨_,p1,_⟩:=hasP_in (inst_ok hk i1).1
 rw [stepsD_eq p1] at s1
 have:=(hs.procs.at p1).1
 have:=hs.insts.1
 omega
theorem rg_of {e:EngD} (hs:En.Small 1048576 e) (hk:engC e=0) {c:ClD} (h:oneC e c=0):Mp.Rg (c.inst,c.step):=by
 obtain ⟨h1,_,h3⟩:=of_one h
 have:=open_len hs hk h1 h3
 unfold Mp.Rg;dsimp only;omega
end Dk
end Go.Proofs.YtccklgopcjilcaaGreatDoor
/- The program's order of places of tasks: cmp.Or. -/
namespace Go.Proofs.YtccklgopcjilcaaGreatDoor
open Go.RowKit
set_option linter.unusedVariables false
namespace Gr
open Ex (hid)
set_option maxRecDepth 100000 in
set_option maxHeartbeats 1000000 in
theorem implOr (a b:Int) (B:Nat) (w:World) (h0:w.cell? ⟨B,0,none⟩=some (.int .i64 a)) (h1:w.cell? ⟨B,1,none⟩=some (.int .i64 b)):Calls Tryz.prog 175 #[.slice (some ⟨B,0,none⟩) 2 2] w fun e w'=>e=.returned (.int .i64 (if a≠0 then a else b))∧w'=w:=by
 obtain ⟨r,hr⟩:∃r,r=if a≠0 then a else b:=⟨_,rfl⟩
 rw [←hr]
 have HR:=hid hr
 clear hr
 go_enter Tryz.func175,Tryz.ntmps175
 go_wp2
 go_loop [5,8] (fun x i=>∃k:Nat,i=.int .i64 k∧k≤2∧(∃y,x=y)∧Hid (0<k→a=0)∧Hid (1<k→b=0)) (fun _ i=>2 - (intOf i).toNat)
 case atStart=>exact ⟨0,rfl,by omega,⟨_,rfl⟩,hid (fun h=>by omega),hid (fun h=>by omega)⟩
 case round=>
  obtain ⟨k,rfl,hk,⟨y,rfl⟩,HA,HB⟩:=hrel
  obtain rfl | rfl | rfl:k=0∨k=1∨k=2:=by omega
  ·by_cases ha:a=0
   ·have b1:(a != 0)=false:=by simp [ha]
    have HA0:=hid ha
    clear ha
    go_wp2
    exact ⟨⟨1,by simp,by omega,⟨_,rfl⟩,hid (fun _=>HA0.out),hid (fun h=>by omega)⟩,by simp [intOf]⟩
   ·have b1:(a != 0)=true:=by simp [ha]
    have HV:Hid (r=a):=hid (by rw [HR.out,if_pos ha])
    clear ha
    go_wp2
    go_ret
    exact ⟨by rw [HV.out];rfl,rfl⟩
  ·have ha:=HA.out (by omega)
   have HV:Hid (r=b):=hid (by rw [HR.out,if_neg (by simp [ha])])
   by_cases hb:b=0
   ·have b1:(b != 0)=false:=by simp [hb]
    have HB0:=hid hb
    have HA0:=hid ha
    clear ha hb
    go_wp2
    exact ⟨⟨2,by simp,by omega,⟨_,rfl⟩,hid (fun _=>HA0.out),hid (fun h=>HB0.out)⟩,by simp [intOf]⟩
   ·have b1:(b != 0)=true:=by simp [hb]
    clear ha hb
    go_wp2
    go_ret
    exact ⟨by rw [HV.out];rfl,rfl⟩
  ·have HV:Hid (r=0):=hid (by rw [HR.out,HA.out (by omega),HB.out (by omega)];rfl)
   go_wp2
   go_ret
   exact ⟨by rw [HV.out];rfl,rfl⟩
end Gr
end Go.Proofs.YtccklgopcjilcaaGreatDoor
