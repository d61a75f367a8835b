/- Laid together: FrD, FrH. -/
import Derived.Test.YtccklgopcjilcaaGreatDoorJCT42
import Derived.Test.YtccklgopcjilcaaGreatDoorJCT44
import Derived.Deep.RegionHeld3
import Derived.Laws.Slices
/- The specification's copy of a desk. No condition. -/
namespace Go.Proofs.YtccklgopcjilcaaGreatDoor
open Go.RowKit Go.Deep
set_option linter.unusedVariables false
set_option linter.unusedSimpArgs false
namespace Fr
open Go.ChangeMaps (setBlock)
open En (EngD)
open Cl (ClD)
open Eg (engC)
open Ex (hid)
open Pf (Rul)
open Dk (DeskD deskC askC heldC isU hasI openT ents of_ask of_held of_d of_claims of_claim of_one CJ CJ_eq oneC claimC claimsC TPost rg_ask look)
open Ds (Rise rise_of without ents_without insertC insert_perm insert_rise ents_snoc same_of LPost)
open Of (who who_or COwn)
open Eo (EOwn EOwnC PRow IRow)
open Ch (blk_cell blk_lt blk_free blk_set new_blk new_at)
theorem cvals_len:∀(xs:List ClD),(Of.cvals xs).length=xs.length*3
 | []=>rfl
 | c :: r=>by unfold Of.cvals;rw [List.flatMap_cons,List.length_append];have:=cvals_len r;unfold Of.cvals at this;rw [this];simp [Of.cv];omega
theorem row_all {w:World} {B:Nat} {v:Value} {xs:List ClD} (h:Cl.At w B v xs):Ap.Row w 3 v xs.length (Of.cvals xs):=by
 obtain ⟨a,cap,rfl,_,_,h⟩:=h
 refine ⟨a,cap,rfl,cvals_len xs,?_,?_⟩
 ·intro u hu
  unfold Of.cvals at hu
  obtain ⟨c,_,hc⟩:=List.mem_flatMap.1 hu
  unfold Of.cv at hc
  simp at hc
  rcases hc with rfl | rfl | rfl <;> rfl
 ·rcases h with h | ⟨g,o,rfl,_,hg,hc⟩
  ·exact .inl (by rw [h];rfl)
  ·refine .inr ⟨⟨g,o,none⟩,rfl,fun j u hu=>?_⟩
   have hj:j<xs.length*3:=by rw [←cvals_len xs];exact (List.getElem?_eq_some_iff.1 hu).1
   have h3:j / 3<xs.length:=by omega
   have e:j=j / 3*3+j % 3:=by omega
   have hm:j % 3<3:=by omega
   rw [e,Of.cvals_get xs (j / 3) (j % 3) h3 hm] at hu
   obtain ⟨c0,c1,c2⟩:=hc (j / 3) h3
   rw [e]
   simp only [Go.WideShapes.add_plain,←Nat.add_assoc]
   generalize j % 3=c at *
   match c,hm with
   | 0,_=>simp [Of.cv] at hu;subst hu;exact c0
   | 1,_=>simp [Of.cv] at hu;subst hu;exact c1
   | 2,_=>simp [Of.cv] at hu;subst hu;exact c2
theorem four {w:World} {b:Nat} {t:TypeId} {z0 z1 z2 z3:Value} (h:w.heap[b]?=some (.cells #[z0,z1,z2,z3] t)):
    w.cell? ⟨b,0,none⟩=some z0∧w.cell? ⟨b,1,none⟩=some z1∧w.cell? ⟨b,2,none⟩=some z2∧w.cell? ⟨b,3,none⟩=some z3∧(∀i,w.frozen? ⟨b,i,none⟩=false)∧b<w.heap.size:=
 ⟨blk_cell h 0,blk_cell h 1,blk_cell h 2,blk_cell h 3,fun i=>blk_free h i,blk_lt h⟩
set_option maxRecDepth 100000 in
set_option maxHeartbeats 8000000 in
theorem specCopy (B:Nat) (d:DeskD) (vp vi vc:Value) (w:World) (hs:Dk.Small 1048576 d) (ha:Dk.At w B vp vi vc d):
    Calls Tryz.prog 84 #[.agg #[vp,vi,.int .i64 d.eng.now,vc]] w fun z w'=>(∃up ui a k,z=.returned (.agg #[up,ui,.int .i64 d.eng.now,.slice a d.claims.length k])∧EOwn w' w.heap.size up ui d.eng)∧Below w.heap.size w w':=by
 obtain ⟨⟨a1,k1,rfl⟩,⟨a2,k2,rfl⟩,a3,k3,rfl⟩:=ha.slices
 have hl3:=hs.claims
 obtain ⟨i0,hi0,hz0,hz1,hz2⟩:=Ex.info_parts Cl.infoOne
 obtain ⟨w0,e0⟩:∃w0,w0=(w.alloc (.cells #[.slice a1 d.eng.procs.length k1,.slice a2 d.eng.insts.length k2,.int .i64 d.eng.now,.slice a3 d.claims.length k3] 30)).alloc (.cells #[.slice none 0 0,.slice none 0 0,.int .i64 0,.slice none 0 0] 30):=⟨_,rfl⟩
 have hb0:Below w.heap.size w w0:=by rw [e0];exact ((Below.refl _ w).alloc (Nat.le_refl _) _).alloc (by simp) _
 have HKD0:Hid (w0.drew.heap[w.heap.size]?=some (.cells #[.slice a1 d.eng.procs.length k1,.slice a2 d.eng.insts.length k2,.int .i64 d.eng.now,.slice a3 d.claims.length k3] 30)):=hid (show w0.heap[w.heap.size]?=some (.cells #[.slice a1 d.eng.procs.length k1,.slice a2 d.eng.insts.length k2,.int .i64 d.eng.now,.slice a3 d.claims.length k3] 30) by rw [e0,Below.heap_alloc _ _ _ (by simp),new_blk])
 have HKR0:Hid (w0.drew.heap[w.heap.size+1]?=some (.cells #[.slice none 0 0,.slice none 0 0,.int .i64 0,.slice none 0 0] 30)):=hid (show w0.heap[w.heap.size+1]?=some (.cells #[.slice none 0 0,.slice none 0 0,.int .i64 0,.slice none 0 0] 30) by rw [e0];exact new_at (by simp) _)
 have HB0:=hid hb0.drew
 have HA:=hid (ha.mono (Nat.zero_le _))
 have HA0:=hid (HA.out.below HB0.out)
 have HS:=hid hs
 clear ha hb0 hs
 go_enter Tryz.func84,Tryz.ntmps84
 go_wp2
 rw [←e0]
 clear e0
 refine wp_region_held_drew (S:=fun wx=>wx.heap[w.heap.size]?=some (.cells #[.slice a1 d.eng.procs.length k1,.slice a2 d.eng.insts.length k2,.int .i64 d.eng.now,.slice a3 d.claims.length k3] 30)) (by kernel_rfl) HKD0.out (fun hHeld=>?_)
 refine wpAnyH_take (i:=0) (v:=.pointer (some ⟨w.heap.size,0,none⟩)) rfl (by kernel_rfl) (by kernel_rfl) (by kernel_rfl) (fun _ _ _ h=>h) (Or.inl ⟨by kernel_rfl,by intro w hSw;(try dsimp only at hSw);go_simp⟩) (by assumption) ?_
 simp only [Act.put,List.setIfInBounds_toArray,List.set_cons_zero,List.set_cons_succ]
 refine wpAnyH_take (i:=1) (v:=.agg #[.slice a1 d.eng.procs.length k1,.slice a2 d.eng.insts.length k2,.int .i64 d.eng.now]) rfl (by kernel_rfl) (by kernel_rfl) (by kernel_rfl) (fun _ _ _ h=>h) (Or.inl ⟨by kernel_rfl,by intro w hSw;(try dsimp only at hSw);have m0:=Ch.blk_cell hSw 0;have m1:=Ch.blk_cell hSw 1;have m2:=Ch.blk_cell hSw 2;have m3:=Ch.blk_cell hSw 3;clear hSw;go_simp⟩) (by assumption) ?_
 simp only [Act.put,List.setIfInBounds_toArray,List.set_cons_zero,List.set_cons_succ]
 refine wpAnyH_take (i:=4) (v:=.pointer (some ⟨w.heap.size,3,none⟩)) rfl (by kernel_rfl) (by kernel_rfl) (by kernel_rfl) (fun _ _ _ h=>h) (Or.inl ⟨by kernel_rfl,by intro w hSw;(try dsimp only at hSw);go_simp⟩) (by assumption) ?_
 simp only [Act.put,List.setIfInBounds_toArray,List.set_cons_zero,List.set_cons_succ]
 refine wpAnyH_take (i:=5) (v:=.slice a3 d.claims.length k3) rfl (by kernel_rfl) (by kernel_rfl) (by kernel_rfl) (fun _ _ _ h=>h) (Or.inl ⟨by kernel_rfl,by intro w hSw;(try dsimp only at hSw);have m0:=Ch.blk_cell hSw 0;have m1:=Ch.blk_cell hSw 1;have m2:=Ch.blk_cell hSw 2;have m3:=Ch.blk_cell hSw 3;clear hSw;go_simp⟩) (by assumption) ?_
 simp only [Act.put,List.setIfInBounds_toArray,List.set_cons_zero,List.set_cons_succ]
 refine wpAnyH_ready (rs:=[2,3]) (by kernel_rfl) (by simp) ?_
 refine (AllReadyH.cons rfl (fun K hK=>?_) (AllReadyH.cons rfl (fun K hK=>?_) AllReadyH.nil))
 ·go_simp
  go_at_call 68
  refine (Eo.specEngineCopy 0 d.eng _ _ w0.drew HS.out.eng HA0.out.eng).mono ?_
  rintro z q ⟨⟨up,ui,rfl,hu⟩,hbu⟩
  obtain ⟨p1,q1,hp⟩:=hu.at'.procs.slice
  obtain ⟨p2,q2,hp2⟩:=hu.at'.insts.slice
  subst hp hp2
  have HKDq:=hid ((hbu.block _ (blk_lt HKD0.out)).trans HKD0.out)
  have HKRq:=hid ((hbu.block _ (blk_lt HKR0.out)).trans HKR0.out)
  have HBq:=hid (HB0.out.trans (hbu.mono HB0.out.size))
  have HAq:=hid (HA0.out.below hbu)
  have HUq:=hid (Eo.EOwnC.of hu)
  have HLO:Hid (w.heap.size+1<w0.drew.heap.size):=hid (blk_lt HKR0.out)
  have HZq:=hid hbu.size
  clear hu hbu
  go_wp2_with fail
  refine hK.out _ _ HKDq.out (fun hHeld=>?_)
  clear hK K
  try simp only [Act.put,List.setIfInBounds_toArray,List.set_cons_zero,List.set_cons_succ]
  refine wpAnyH_ready (rs:=[3]) (by kernel_rfl) (by simp) ?_
  refine AllReadyH.cons rfl (fun K hK=>?_) AllReadyH.nil
  go_simp
  obtain ⟨x,ex⟩:∃x,x=q.alloc (.cells #[] 143):=⟨_,rfl⟩
  have hbx:Below q.heap.size q x:=by rw [ex];exact (Below.refl _ q).alloc (Nat.le_refl _) _
  obtain ⟨O,eO⟩:∃O,O=q.heap.size:=⟨_,rfl⟩
  have HOx:Hid (COwn x O (.slice (some ⟨O,0,none⟩) 0 0) []):=hid (COwn.empty (Nat.le_refl _) (by rw [ex,eO];exact new_blk _ _))
  have hzx:x.heap.size=O+1:=by rw [ex,eO];simp
  rw [←ex,←eO]
  have EO:=hid eO
  clear ex eO
  have HKDx:Hid (x.heap[w.heap.size]?=some (.cells #[.slice a1 d.eng.procs.length k1,.slice a2 d.eng.insts.length k2,.int .i64 d.eng.now,.slice a3 d.claims.length k3] 30)):=hid ((hbx.block _ (blk_lt HKDq.out)).trans HKDq.out)
  have HKRx:=hid ((hbx.block _ (blk_lt HKRq.out)).trans HKRq.out)
  have HBx:=hid (HBq.out.trans (hbx.mono HBq.out.size))
  have HAx:=hid (HAq.out.below hbx)
  have HUx:=hid (HUq.out.below hbx)
  clear hbx HUq HAq HBq HKRq
  refine hK.out _ _ HKDx.out (fun hHeld=>?_)
  clear hK K
  try simp only [Act.put,List.setIfInBounds_toArray,List.set_cons_zero,List.set_cons_succ]
  refine wpAnyH_ready (rs:=[6]) (by kernel_rfl) (by simp) ?_
  refine AllReadyH.cons rfl (fun K hK=>?_) AllReadyH.nil
  refine Ap.step_any _ (by rfl) _ _ 28 (by rfl) O 143 i0 (.agg #[.int .i64 0,.int .i64 0,.int .i64 0]) 3 24 Tryz.underlying28 hi0 hz0 hz1 hz2 rfl (by decide) (.slice (some ⟨O,0,none⟩) 0 0) 0 [] (by rfl) HOx.out (.slice a3 d.claims.length k3) d.claims.length (Of.cvals d.claims) (by rfl) (row_all HAx.out.claims) (by unfold maxLen;omega) (by omega) (by omega) _ rfl ?_
  intro a9 c9 w9 hown9 hg9 hat9
  have HKD:Hid (w9.heap[w.heap.size]?=some (.cells #[.slice a1 d.eng.procs.length k1,.slice a2 d.eng.insts.length k2,.int .i64 d.eng.now,.slice a3 d.claims.length k3] 30)):=hid ((hg9.block _ (blk_lt HKDx.out) (fun e=>by have:=(HOx.out.lt e.symm).1;have:=EO.out;have:=HZq.out;have:=HLO.out;omega)).trans HKDx.out)
  have HKR:Hid (w9.heap[w.heap.size+1]?=some (.cells #[.slice none 0 0,.slice none 0 0,.int .i64 0,.slice none 0 0] 30)):=hid ((hg9.block _ (blk_lt HKRx.out) (fun e=>by have:=(HOx.out.lt e.symm).1;have:=EO.out;have:=HZq.out;have:=HLO.out;omega)).trans HKRx.out)
  have HU9:=hid (HUx.out.keep hg9.size (fun b _ hM hl=>hg9.block b hl (fun e=>by have:=(HOx.out.lt e.symm).1;have:=EO.out;omega)))
  have HB9:=hid (HBx.out.grown hg9 (by have:=HBx.out.size;omega) (fun b e=>by have:=(HOx.out.lt e).1;have:=EO.out;have:=HZq.out;have:=HLO.out;omega))
  clear hown9 hg9 hat9 HOx HUx HBx HAx HKRx HKDx hzx
  refine hK.out _ _ HKD.out (fun hHeld=>?_)
  clear hK K
  try simp only [Act.put,List.setIfInBounds_toArray,List.set_cons_zero,List.set_cons_succ]
  refine wpAnyH_take (i:=7) (v:=.agg #[.slice p1 d.eng.procs.length q1,.slice p2 d.eng.insts.length q2,.int .i64 d.eng.now,.slice a9 (0+d.claims.length) c9]) rfl (by kernel_rfl) (by kernel_rfl) (by kernel_rfl) (fun _ _ _ h=>h) (Or.inl ⟨by kernel_rfl,by intro w hSw;(try dsimp only at hSw);go_simp⟩) (by assumption) ?_
  simp only [Act.put,List.setIfInBounds_toArray,List.set_cons_zero,List.set_cons_succ]
  have t0:=blk_free HKR.out 0
  have t1:=blk_free HKR.out 1
  have t2:=blk_free HKR.out 2
  have t3:=blk_free HKR.out 3
  have z0:=blk_cell HKR.out 0
  have z1:=blk_cell HKR.out 1
  have z2:=blk_cell HKR.out 2
  have z3:=blk_cell HKR.out 3
  have zl:=blk_lt HKR.out
  obtain ⟨wF,eF⟩:∃wF,wF=((((w9.setCell ⟨w.heap.size+1,0,none⟩ (.slice p1 d.eng.procs.length q1)).setCell ⟨w.heap.size+1,1,none⟩ (.slice p2 d.eng.insts.length q2)).setCell ⟨w.heap.size+1,2,none⟩ (.int .i64 d.eng.now)).setCell ⟨w.heap.size+1,3,none⟩ (.slice a9 d.claims.length c9)):=⟨_,rfl⟩
  have KF:wF.heap[w.heap.size+1]?=some (.cells #[.slice p1 d.eng.procs.length q1,.slice p2 d.eng.insts.length q2,.int .i64 d.eng.now,.slice a9 d.claims.length c9] 30):=by rw [eF];have:=(blk_set (i:=3) (blk_set (i:=2) (blk_set (i:=1) (blk_set (i:=0) HKR.out (.slice p1 d.eng.procs.length q1)) (.slice p2 d.eng.insts.length q2)) (.int .i64 d.eng.now)) (.slice a9 d.claims.length c9));simpa using this
  have HO9:=hid (fun b (hb:b≠w.heap.size+1)=>show wF.heap[b]?=w9.heap[b]? by rw [eF];repeat rw [Below.heap_setCell _ _ _ _ (by dsimp only;omega)])
  have HZF:Hid (wF.heap.size=w9.heap.size):=hid (by rw [eF];simp [World.setCell])
  have HBF:Hid (Below w.heap.size w wF):=hid (by rw [eF];exact (((HB9.out.setCell (by simp) _).setCell (by simp) _).setCell (by simp) _).setCell (by simp) _)
  have hDF:wF.heap[w.heap.size]?=some (.cells #[.slice a1 d.eng.procs.length k1,.slice a2 d.eng.insts.length k2,.int .i64 d.eng.now,.slice a3 d.claims.length k3] 30):=(HO9.out _ (by omega)).trans HKD.out
  refine wpAnyH_ready (rs:=[8]) (by kernel_rfl) (by simp) ?_
  refine AllReadyH.cons rfl (fun K hK=>?_) AllReadyH.nil
  go_simp
  rw [←eF]
  refine hK.out _ _ hDF (fun hHeld=>?_)
  clear hK K
  try simp only [Act.put,List.setIfInBounds_toArray,List.set_cons_zero,List.set_cons_succ]
  refine wpAnyH_done (by kernel_rfl) ?_ _
  clear hHeld t0 t1 t2 t3 z0 z1 z2 z3 zl eF hDF
  obtain ⟨r0,r1,r2,r3,rf,rl⟩:=four KF
  go_wp2
  refine bodyPost_ret (v:=.agg #[.slice p1 d.eng.procs.length q1,.slice p2 d.eng.insts.length q2,.int .i64 d.eng.now,.slice a9 d.claims.length c9]) (by simp [results,Tryz.results84,go_sem,r0,r1,r2,r3]) rfl ⟨⟨_,_,_,_,rfl,?_⟩,HBF.out⟩
  exact (HU9.out.own.keep (Nat.le_of_eq HZF.out.symm) (fun b hb _=>HO9.out b (by have:=HLO.out;omega))).mono (by have:=HLO.out;omega)
 ·go_simp
  obtain ⟨x,ex⟩:∃x,x=(w0.alloc (.cells #[] 143)).drew:=⟨_,rfl⟩
  have hbx:Below w0.drew.heap.size w0.drew x:=by rw [ex];exact (Below.refl w0.drew.heap.size w0.drew).alloc (Nat.le_refl _) (.cells #[] 143)
  obtain ⟨O,eO⟩:∃O,O=w0.heap.size:=⟨_,rfl⟩
  have HOx:Hid (COwn x O (.slice (some ⟨O,0,none⟩) 0 0) []):=hid (COwn.empty (Nat.le_refl _) (by rw [ex,eO];exact new_blk _ _))
  have hzx:x.heap.size=O+1:=by rw [ex,eO];simp
  rw [←ex,←eO]
  have HWO:Hid (w.heap.size+1<O):=hid (by have:=blk_lt HKR0.out;rw [eO];exact this)
  clear ex eO
  have HKDx:Hid (x.heap[w.heap.size]?=some (.cells #[.slice a1 d.eng.procs.length k1,.slice a2 d.eng.insts.length k2,.int .i64 d.eng.now,.slice a3 d.claims.length k3] 30)):=hid ((hbx.block _ (blk_lt HKD0.out)).trans HKD0.out)
  have HKRx:=hid ((hbx.block _ (blk_lt HKR0.out)).trans HKR0.out)
  have HBx:=hid (HB0.out.trans (hbx.mono HB0.out.size))
  have HAx:=hid (HA0.out.below hbx)
  clear hbx
  refine hK.out _ _ HKDx.out (fun hHeld=>?_)
  clear hK K
  try simp only [Act.put,List.setIfInBounds_toArray,List.set_cons_zero,List.set_cons_succ]
  refine wpAnyH_ready (rs:=[2]) (by kernel_rfl) (by simp) ?_
  refine AllReadyH.cons rfl (fun K hK=>?_) AllReadyH.nil
  go_simp
  go_at_call 68
  refine (Eo.specEngineCopy 0 d.eng _ _ x HS.out.eng HAx.out.eng).mono ?_
  rintro z q ⟨⟨up,ui,rfl,hu⟩,hbu⟩
  obtain ⟨p1,q1,hp⟩:=hu.at'.procs.slice
  obtain ⟨p2,q2,hp2⟩:=hu.at'.insts.slice
  subst hp hp2
  have HKDq:=hid ((hbu.block _ (blk_lt HKDx.out)).trans HKDx.out)
  have HKRq:=hid ((hbu.block _ (blk_lt HKRx.out)).trans HKRx.out)
  have HBq:=hid (HBx.out.trans (hbu.mono HBx.out.size))
  have HAq:=hid (HAx.out.below hbu)
  have HUq:=hid (Eo.EOwnC.of hu)
  have HOq:=hid (HOx.out.below hbu)
  have HLO:Hid (w.heap.size+1<x.heap.size):=hid (blk_lt HKRx.out)
  have HZq:=hid hbu.size
  have HXO:=hid hzx
  clear hu hbu hzx
  go_wp2_with fail
  refine hK.out _ _ HKDq.out (fun hHeld=>?_)
  clear hK K
  try simp only [Act.put,List.setIfInBounds_toArray,List.set_cons_zero,List.set_cons_succ]
  refine wpAnyH_ready (rs:=[6]) (by kernel_rfl) (by simp) ?_
  refine AllReadyH.cons rfl (fun K hK=>?_) AllReadyH.nil
  refine Ap.step_any _ (by rfl) _ _ 28 (by rfl) O 143 i0 (.agg #[.int .i64 0,.int .i64 0,.int .i64 0]) 3 24 Tryz.underlying28 hi0 hz0 hz1 hz2 rfl (by decide) (.slice (some ⟨O,0,none⟩) 0 0) 0 [] (by rfl) HOq.out (.slice a3 d.claims.length k3) d.claims.length (Of.cvals d.claims) (by rfl) (row_all HAq.out.claims) (by unfold maxLen;omega) (by omega) (by have:=HZq.out;have:=HXO.out;omega) _ rfl ?_
  intro a9 c9 w9 hown9 hg9 hat9
  have HKD:Hid (w9.heap[w.heap.size]?=some (.cells #[.slice a1 d.eng.procs.length k1,.slice a2 d.eng.insts.length k2,.int .i64 d.eng.now,.slice a3 d.claims.length k3] 30)):=hid ((hg9.block _ (blk_lt HKDq.out) (fun e=>by have:=(HOq.out.lt e.symm).1;have:=HWO.out;omega)).trans HKDq.out)
  have HKR:Hid (w9.heap[w.heap.size+1]?=some (.cells #[.slice none 0 0,.slice none 0 0,.int .i64 0,.slice none 0 0] 30)):=hid ((hg9.block _ (blk_lt HKRq.out) (fun e=>by have:=(HOq.out.lt e.symm).1;have:=HWO.out;omega)).trans HKRq.out)
  have HU9:=hid (HUq.out.keep hg9.size (fun b hB _ hl=>hg9.block b hl (fun e=>by have:=(HOx.out.lt e.symm).2;omega)))
  have HB9:=hid (HBq.out.grown hg9 HBq.out.size (fun b e=>by have:=(HOq.out.lt e).1;have:=HWO.out;omega))
  clear hown9 hg9 hat9 HOq HUq HBq HAq HKRq HKDq
  refine hK.out _ _ HKD.out (fun hHeld=>?_)
  clear hK K
  try simp only [Act.put,List.setIfInBounds_toArray,List.set_cons_zero,List.set_cons_succ]
  refine wpAnyH_take (i:=7) (v:=.agg #[.slice p1 d.eng.procs.length q1,.slice p2 d.eng.insts.length q2,.int .i64 d.eng.now,.slice a9 (0+d.claims.length) c9]) rfl (by kernel_rfl) (by kernel_rfl) (by kernel_rfl) (fun _ _ _ h=>h) (Or.inl ⟨by kernel_rfl,by intro w hSw;(try dsimp only at hSw);go_simp⟩) (by assumption) ?_
  simp only [Act.put,List.setIfInBounds_toArray,List.set_cons_zero,List.set_cons_succ]
  have t0:=blk_free HKR.out 0
  have t1:=blk_free HKR.out 1
  have t2:=blk_free HKR.out 2
  have t3:=blk_free HKR.out 3
  have z0:=blk_cell HKR.out 0
  have z1:=blk_cell HKR.out 1
  have z2:=blk_cell HKR.out 2
  have z3:=blk_cell HKR.out 3
  have zl:=blk_lt HKR.out
  obtain ⟨wF,eF⟩:∃wF,wF=((((w9.setCell ⟨w.heap.size+1,0,none⟩ (.slice p1 d.eng.procs.length q1)).setCell ⟨w.heap.size+1,1,none⟩ (.slice p2 d.eng.insts.length q2)).setCell ⟨w.heap.size+1,2,none⟩ (.int .i64 d.eng.now)).setCell ⟨w.heap.size+1,3,none⟩ (.slice a9 d.claims.length c9)):=⟨_,rfl⟩
  have KF:wF.heap[w.heap.size+1]?=some (.cells #[.slice p1 d.eng.procs.length q1,.slice p2 d.eng.insts.length q2,.int .i64 d.eng.now,.slice a9 d.claims.length c9] 30):=by rw [eF];have:=(blk_set (i:=3) (blk_set (i:=2) (blk_set (i:=1) (blk_set (i:=0) HKR.out (.slice p1 d.eng.procs.length q1)) (.slice p2 d.eng.insts.length q2)) (.int .i64 d.eng.now)) (.slice a9 d.claims.length c9));simpa using this
  have HO9:=hid (fun b (hb:b≠w.heap.size+1)=>show wF.heap[b]?=w9.heap[b]? by rw [eF];repeat rw [Below.heap_setCell _ _ _ _ (by dsimp only;omega)])
  have HZF:Hid (wF.heap.size=w9.heap.size):=hid (by rw [eF];simp [World.setCell])
  have HBF:Hid (Below w.heap.size w wF):=hid (by rw [eF];exact (((HB9.out.setCell (by simp) _).setCell (by simp) _).setCell (by simp) _).setCell (by simp) _)
  have hDF:wF.heap[w.heap.size]?=some (.cells #[.slice a1 d.eng.procs.length k1,.slice a2 d.eng.insts.length k2,.int .i64 d.eng.now,.slice a3 d.claims.length k3] 30):=(HO9.out _ (by omega)).trans HKD.out
  refine wpAnyH_ready (rs:=[8]) (by kernel_rfl) (by simp) ?_
  refine AllReadyH.cons rfl (fun K hK=>?_) AllReadyH.nil
  go_simp
  rw [←eF]
  refine hK.out _ _ hDF (fun hHeld=>?_)
  clear hK K
  try simp only [Act.put,List.setIfInBounds_toArray,List.set_cons_zero,List.set_cons_succ]
  refine wpAnyH_done (by kernel_rfl) ?_ _
  clear hHeld t0 t1 t2 t3 z0 z1 z2 z3 zl eF hDF
  obtain ⟨r0,r1,r2,r3,rf,rl⟩:=four KF
  go_wp2
  refine bodyPost_ret (v:=.agg #[.slice p1 d.eng.procs.length q1,.slice p2 d.eng.insts.length q2,.int .i64 d.eng.now,.slice a9 d.claims.length c9]) (by simp [results,Tryz.results84,go_sem,r0,r1,r2,r3]) rfl ⟨⟨_,_,_,_,rfl,?_⟩,HBF.out⟩
  exact (HU9.out.own.keep (Nat.le_of_eq HZF.out.symm) (fun b hb _=>HO9.out b (by have:=HLO.out;omega))).mono (by have:=HLO.out;omega)
end Fr
end Go.Proofs.YtccklgopcjilcaaGreatDoor
/- The first claims of a row and the rest of it, sliced; a claim's place. No condition. -/
namespace Go.Proofs.YtccklgopcjilcaaGreatDoor
open Go.RowKit Go.Deep
set_option linter.unusedVariables false
set_option linter.unusedSimpArgs false
namespace Fr
open Go.ChangeMaps (setBlock)
open En (EngD)
open Cl (ClD)
open Eg (engC)
open Ex (hid)
open Pf (Rul)
open Dk (DeskD deskC askC heldC isU hasI openT ents of_ask of_held of_d of_claims of_claim of_one CJ CJ_eq oneC claimC claimsC TPost rg_ask look)
open Ds (Rise rise_of without ents_without insertC insert_perm insert_rise ents_snoc same_of LPost)
open Of (who who_or COwn)
open Eo (EOwn EOwnC PRow IRow)
open Ch (blk_cell blk_lt blk_free blk_set new_blk new_at)
open Go.RowKit
theorem sized (w:World):Sem.run Tryz.prog (sizeOf (Tryz.prog.elem 28)) w=.ok 3 w:=by kernel_rfl
theorem add0 (a:Option Addr):a.map (·.add (0*3))=a:=by
 cases a with
 | none=>rfl
 | some ad=>obtain ⟨g,o,p⟩:=ad;unfold Addr.add;cases p <;> rfl
theorem cut_first {w:World} {B:Nat} {a:Option Addr} {c:Nat} {cs:List ClD} (h:Cl.At w B (.slice a cs.length c) cs) (k:Nat) (hk:k≤cs.length):
    (∀w':World,Sem.run Tryz.prog (Instr.slice 28 (.slice a cs.length c) none (some (.int .i64 (k:Int))) none) w'=.ok (.slice a k c) w')∧Cl.At w B (.slice a k c) (cs.take k):=by
 obtain ⟨hc,hm⟩:=h.cap
 refine ⟨fun w'=>?_,?_⟩
 ·rw [run_slice_h (P:=Tryz.prog) w' 28 a cs.length c (by kernel_rfl) .i64 (k:Int) (by omega) (by omega),sized]
  simp only [Result.andThen,sliced,Int.toNat_natCast,Nat.sub_zero]
  have ha:(if c=0 then a else a.map (·.add (0*3)))=a:=by rw [add0];split <;> rfl
  rw [ha]
 ·refine ⟨a,c,by rw [List.length_take,Nat.min_eq_left hk],by rw [List.length_take];omega,hm,?_⟩
  obtain ⟨a',c',e,_,_,h⟩:=h
  cases e
  rcases h with h | ⟨g,o,rfl,hB,hg,hcl⟩
  ·left;rw [h];simp
  ·refine .inr ⟨g,o,rfl,hB,hg,fun i hi=>?_⟩
   rw [List.length_take] at hi
   have:=hcl i (by omega)
   rw [List.getElem_take]
   exact this
theorem cut_rest {w:World} {B:Nat} {a:Option Addr} {c:Nat} {cs:List ClD} (h:Cl.At w B (.slice a cs.length c) cs) (k:Nat) (hk:k≤cs.length):
    ∃a' c',(∀w':World,Sem.run Tryz.prog (Instr.slice 28 (.slice a cs.length c) (some (.int .i64 (k:Int))) none none) w'=.ok (.slice a' (cs.length - k) c') w')∧Cl.At w B (.slice a' (cs.length - k) c') (cs.drop k):=by
 obtain ⟨hc,hm⟩:=h.cap
 refine ⟨if c=k then a else a.map (·.add (k*3)),c - k,fun w'=>?_,?_⟩
 ·rw [run_slice_l (P:=Tryz.prog) w' 28 a cs.length c (by kernel_rfl) .i64 (k:Int) (by omega) (by omega),sized]
  simp only [Result.andThen,sliced,Int.toNat_natCast]
 ·obtain ⟨a',c',e,_,_,h⟩:=h
  cases e
  refine ⟨_,_,by rw [List.length_drop],by rw [List.length_drop];omega,by omega,?_⟩
  rcases h with h | ⟨g,o,rfl,hB,hg,hcl⟩
  ·left;rw [h];simp
  ·by_cases hz:k=cs.length
   ·left;rw [hz];simp
   ·refine .inr ⟨g,o+k*3,?_,hB,hg,fun i hi=>?_⟩
    ·rw [if_neg (by omega),Option.map_some,Go.WideShapes.add_plain]
    ·rw [List.length_drop] at hi
     have:=hcl (k+i) (by omega)
     rw [List.getElem_drop]
     have e:∀j,o+k*3+i*3+j=o+(k+i)*3+j:=fun j=>by omega
     have e0:o+k*3+i*3=o+(k+i)*3:=by omega
     rw [e0]
     exact this
theorem place {p:ClD→Bool}:∀(cs:List ClD) (k:Nat),k≤cs.length→(∀j (h:j<cs.length),j<k→p cs[j]=true)→(∀h:k<cs.length,p cs[k]=false)→cs.takeWhile p=cs.take k∧cs.dropWhile p=cs.drop k
 | [],k,_,_,_=>by simp
 | c :: r,0,_,_,h2=>by
  have:=h2 (by simp)
  simp only [List.getElem_cons_zero] at this
  simp [List.takeWhile_cons,List.dropWhile_cons,this]
 | c :: r,k+1,hk,h1,h2=>by
  have h0:=h1 0 (by simp) (by omega)
  simp only [List.getElem_cons_zero] at h0
  obtain ⟨e1,e2⟩:=place r k (by simpa using hk) (fun j hj hjk=>by have:=h1 (j+1) (by simpa using hj) (by omega);simpa using this) (fun h=>by have:=h2 (by simpa using h);simpa using this)
  simp [List.takeWhile_cons,List.dropWhile_cons,h0,e1,e2]
theorem insert_place {cs:List ClD} {x:ClD} {k:Nat} (hk:k≤cs.length) (h1:∀j (h:j<cs.length),j<k→Dk.aheadC cs[j] x=true) (h2:∀h:k<cs.length,Dk.aheadC cs[k] x=false):insertC cs x=cs.take k++[x]++cs.drop k:=by
 obtain ⟨e1,e2⟩:=place (p:=fun c=>Dk.aheadC c x) cs k hk h1 h2
 unfold Ds.insertC
 rw [e1,e2]
 simp
theorem cvals_app (xs ys:List ClD):Of.cvals (xs++ys)=Of.cvals xs++Of.cvals ys:=by simp [Of.cvals]
theorem cvals_one (x:ClD):Of.cvals [x]=Of.cv x:=by simp [Of.cvals]
end Fr
end Go.Proofs.YtccklgopcjilcaaGreatDoor
