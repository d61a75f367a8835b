/- Laid together: FrD, FrE, EoR. -/
import Derived.Test.YtccklgopcjilcaaGreatDoorJFT42
import Derived.Test.YtccklgopcjilcaaGreatDoorJFT44
import Derived.Deep.RegionHeld3
import Derived.Test.YtccklgopcjilcaaGreatDoorJFT39
/- The specification's copy of a desk. No condition. -/
namespace Go.Proofs.YtccklgopcjilcaaGreatDoor
open Go.RowKit Go.Deep
set_option linter.unusedVariables false
set_option linter.unusedSimpArgs false
namespace Fr
open Go.ChangeMaps (setBlock)
open En (EngD)
open Cl (ClD)
open Eg (engC)
open Ex (hid)
open Pf (Rul)
open Dk (DeskD deskC askC heldC isU hasI openT ents of_ask of_held of_d of_claims of_claim of_one CJ CJ_eq oneC claimC claimsC TPost rg_ask look)
open Ds (Rise rise_of without ents_without insertC insert_perm insert_rise ents_snoc same_of LPost)
open Of (who who_or COwn)
open Eo (EOwn EOwnC PRow IRow)
open Ch (blk_cell blk_lt blk_free blk_set new_blk new_at)
theorem cvals_len:∀(xs:List ClD),(Of.cvals xs).length=xs.length*3
 | []=>rfl
 | c :: r=>by unfold Of.cvals;rw [List.flatMap_cons,List.length_append];have:=cvals_len r;unfold Of.cvals at this;rw [this];simp [Of.cv];omega
theorem row_all {w:World} {B:Nat} {v:Value} {xs:List ClD} (h:Cl.At w B v xs):Ap.Row w 3 v xs.length (Of.cvals xs):=by
 obtain ⟨a,cap,rfl,_,_,h⟩:=h
 refine ⟨a,cap,rfl,cvals_len xs,?_,?_⟩
 ·intro u hu
  unfold Of.cvals at hu
  obtain ⟨c,_,hc⟩:=List.mem_flatMap.1 hu
  unfold Of.cv at hc
  simp at hc
  rcases hc with rfl | rfl | rfl <;> rfl
 ·rcases h with h | ⟨g,o,rfl,_,hg,hc⟩
  ·exact .inl (by rw [h];rfl)
  ·refine .inr ⟨⟨g,o,none⟩,rfl,fun j u hu=>?_⟩
   have hj:j<xs.length*3:=by rw [←cvals_len xs];exact (List.getElem?_eq_some_iff.1 hu).1
   have h3:j / 3<xs.length:=by omega
   have e:j=j / 3*3+j % 3:=by omega
   have hm:j % 3<3:=by omega
   rw [e,Of.cvals_get xs (j / 3) (j % 3) h3 hm] at hu
   obtain ⟨c0,c1,c2⟩:=hc (j / 3) h3
   rw [e]
   simp only [Go.WideShapes.add_plain,←Nat.add_assoc]
   generalize j % 3=c at *
   match c,hm with
   | 0,_=>simp [Of.cv] at hu;subst hu;exact c0
   | 1,_=>simp [Of.cv] at hu;subst hu;exact c1
   | 2,_=>simp [Of.cv] at hu;subst hu;exact c2
theorem four {w:World} {b:Nat} {t:TypeId} {z0 z1 z2 z3:Value} (h:w.heap[b]?=some (.cells #[z0,z1,z2,z3] t)):
    w.cell? ⟨b,0,none⟩=some z0∧w.cell? ⟨b,1,none⟩=some z1∧w.cell? ⟨b,2,none⟩=some z2∧w.cell? ⟨b,3,none⟩=some z3∧(∀i,w.frozen? ⟨b,i,none⟩=false)∧b<w.heap.size:=
 ⟨blk_cell h 0,blk_cell h 1,blk_cell h 2,blk_cell h 3,fun i=>blk_free h i,blk_lt h⟩
set_option maxRecDepth 100000 in
set_option maxHeartbeats 8000000 in
theorem specCopy (B:Nat) (d:DeskD) (vp vi vc:Value) (w:World) (hs:Dk.Small 1048576 d) (ha:Dk.At w B vp vi vc d):
    Calls Tryz.prog 84 #[.agg #[vp,vi,.int .i64 d.eng.now,vc]] w fun z w'=>(∃up ui a k,z=.returned (.agg #[up,ui,.int .i64 d.eng.now,.slice a d.claims.length k])∧EOwn w' w.heap.size up ui d.eng)∧Below w.heap.size w w':=by
 obtain ⟨⟨a1,k1,rfl⟩,⟨a2,k2,rfl⟩,a3,k3,rfl⟩:=ha.slices
 have hl3:=hs.claims
 obtain ⟨i0,hi0,hz0,hz1,hz2⟩:=Ex.info_parts Cl.infoOne
 obtain ⟨w0,e0⟩:∃w0,w0=(w.alloc (.cells #[.slice a1 d.eng.procs.length k1,.slice a2 d.eng.insts.length k2,.int .i64 d.eng.now,.slice a3 d.claims.length k3] 30)).alloc (.cells #[.slice none 0 0,.slice none 0 0,.int .i64 0,.slice none 0 0] 30):=⟨_,rfl⟩
 have hb0:Below w.heap.size w w0:=by rw [e0];exact ((Below.refl _ w).alloc (Nat.le_refl _) _).alloc (by simp) _
 have HKD0:Hid (w0.drew.heap[w.heap.size]?=some (.cells #[.slice a1 d.eng.procs.length k1,.slice a2 d.eng.insts.length k2,.int .i64 d.eng.now,.slice a3 d.claims.length k3] 30)):=hid (show w0.heap[w.heap.size]?=some (.cells #[.slice a1 d.eng.procs.length k1,.slice a2 d.eng.insts.length k2,.int .i64 d.eng.now,.slice a3 d.claims.length k3] 30) by rw [e0,Below.heap_alloc _ _ _ (by simp),new_blk])
 have HKR0:Hid (w0.drew.heap[w.heap.size+1]?=some (.cells #[.slice none 0 0,.slice none 0 0,.int .i64 0,.slice none 0 0] 30)):=hid (show w0.heap[w.heap.size+1]?=some (.cells #[.slice none 0 0,.slice none 0 0,.int .i64 0,.slice none 0 0] 30) by rw [e0];exact new_at (by simp) _)
 have HB0:=hid hb0.drew
 have HA:=hid (ha.mono (Nat.zero_le _))
 have HA0:=hid (HA.out.below HB0.out)
 have HS:=hid hs
 clear ha hb0 hs
 go_enter Tryz.func84,Tryz.ntmps84
 go_wp2
 rw [←e0]
 clear e0
 refine wp_region_held_drew (S:=fun wx=>wx.heap[w.heap.size]?=some (.cells #[.slice a1 d.eng.procs.length k1,.slice a2 d.eng.insts.length k2,.int .i64 d.eng.now,.slice a3 d.claims.length k3] 30)) (by kernel_rfl) HKD0.out (fun hHeld=>?_)
 refine wpAnyH_take (i:=0) (v:=.pointer (some ⟨w.heap.size,0,none⟩)) rfl (by kernel_rfl) (by kernel_rfl) (by kernel_rfl) (fun _ _ _ h=>h) (Or.inl ⟨by kernel_rfl,by intro w hSw;(try dsimp only at hSw);go_simp⟩) (by assumption) ?_
 simp only [Act.put,List.setIfInBounds_toArray,List.set_cons_zero,List.set_cons_succ]
 refine wpAnyH_take (i:=1) (v:=.agg #[.slice a1 d.eng.procs.length k1,.slice a2 d.eng.insts.length k2,.int .i64 d.eng.now]) rfl (by kernel_rfl) (by kernel_rfl) (by kernel_rfl) (fun _ _ _ h=>h) (Or.inl ⟨by kernel_rfl,by intro w hSw;(try dsimp only at hSw);have m0:=Ch.blk_cell hSw 0;have m1:=Ch.blk_cell hSw 1;have m2:=Ch.blk_cell hSw 2;have m3:=Ch.blk_cell hSw 3;clear hSw;go_simp⟩) (by assumption) ?_
 simp only [Act.put,List.setIfInBounds_toArray,List.set_cons_zero,List.set_cons_succ]
 refine wpAnyH_take (i:=4) (v:=.pointer (some ⟨w.heap.size,3,none⟩)) rfl (by kernel_rfl) (by kernel_rfl) (by kernel_rfl) (fun _ _ _ h=>h) (Or.inl ⟨by kernel_rfl,by intro w hSw;(try dsimp only at hSw);go_simp⟩) (by assumption) ?_
 simp only [Act.put,List.setIfInBounds_toArray,List.set_cons_zero,List.set_cons_succ]
 refine wpAnyH_take (i:=5) (v:=.slice a3 d.claims.length k3) rfl (by kernel_rfl) (by kernel_rfl) (by kernel_rfl) (fun _ _ _ h=>h) (Or.inl ⟨by kernel_rfl,by intro w hSw;(try dsimp only at hSw);have m0:=Ch.blk_cell hSw 0;have m1:=Ch.blk_cell hSw 1;have m2:=Ch.blk_cell hSw 2;have m3:=Ch.blk_cell hSw 3;clear hSw;go_simp⟩) (by assumption) ?_
 simp only [Act.put,List.setIfInBounds_toArray,List.set_cons_zero,List.set_cons_succ]
 refine wpAnyH_ready (rs:=[2,3]) (by kernel_rfl) (by simp) ?_
 refine (AllReadyH.cons rfl (fun K hK=>?_) (AllReadyH.cons rfl (fun K hK=>?_) AllReadyH.nil))
 ·go_simp
  go_at_call 68
  refine (Eo.specEngineCopy 0 d.eng _ _ w0.drew HS.out.eng HA0.out.eng).mono ?_
  rintro z q ⟨⟨up,ui,rfl,hu⟩,hbu⟩
  obtain ⟨p1,q1,hp⟩:=hu.at'.procs.slice
  obtain ⟨p2,q2,hp2⟩:=hu.at'.insts.slice
  subst hp hp2
  have HKDq:=hid ((hbu.block _ (blk_lt HKD0.out)).trans HKD0.out)
  have HKRq:=hid ((hbu.block _ (blk_lt HKR0.out)).trans HKR0.out)
  have HBq:=hid (HB0.out.trans (hbu.mono HB0.out.size))
  have HAq:=hid (HA0.out.below hbu)
  have HUq:=hid (Eo.EOwnC.of hu)
  have HLO:Hid (w.heap.size+1<w0.drew.heap.size):=hid (blk_lt HKR0.out)
  have HZq:=hid hbu.size
  clear hu hbu
  go_wp2_with fail
  refine hK.out _ _ HKDq.out (fun hHeld=>?_)
  clear hK K
  try simp only [Act.put,List.setIfInBounds_toArray,List.set_cons_zero,List.set_cons_succ]
  refine wpAnyH_ready (rs:=[3]) (by kernel_rfl) (by simp) ?_
  refine AllReadyH.cons rfl (fun K hK=>?_) AllReadyH.nil
  go_simp
  obtain ⟨x,ex⟩:∃x,x=q.alloc (.cells #[] 143):=⟨_,rfl⟩
  have hbx:Below q.heap.size q x:=by rw [ex];exact (Below.refl _ q).alloc (Nat.le_refl _) _
  obtain ⟨O,eO⟩:∃O,O=q.heap.size:=⟨_,rfl⟩
  have HOx:Hid (COwn x O (.slice (some ⟨O,0,none⟩) 0 0) []):=hid (COwn.empty (Nat.le_refl _) (by rw [ex,eO];exact new_blk _ _))
  have hzx:x.heap.size=O+1:=by rw [ex,eO];simp
  rw [←ex,←eO]
  have EO:=hid eO
  clear ex eO
  have HKDx:Hid (x.heap[w.heap.size]?=some (.cells #[.slice a1 d.eng.procs.length k1,.slice a2 d.eng.insts.length k2,.int .i64 d.eng.now,.slice a3 d.claims.length k3] 30)):=hid ((hbx.block _ (blk_lt HKDq.out)).trans HKDq.out)
  have HKRx:=hid ((hbx.block _ (blk_lt HKRq.out)).trans HKRq.out)
  have HBx:=hid (HBq.out.trans (hbx.mono HBq.out.size))
  have HAx:=hid (HAq.out.below hbx)
  have HUx:=hid (HUq.out.below hbx)
  clear hbx HUq HAq HBq HKRq
  refine hK.out _ _ HKDx.out (fun hHeld=>?_)
  clear hK K
  try simp only [Act.put,List.setIfInBounds_toArray,List.set_cons_zero,List.set_cons_succ]
  refine wpAnyH_ready (rs:=[6]) (by kernel_rfl) (by simp) ?_
  refine AllReadyH.cons rfl (fun K hK=>?_) AllReadyH.nil
  refine Ap.step_any _ (by rfl) _ _ 28 (by rfl) O 143 i0 (.agg #[.int .i64 0,.int .i64 0,.int .i64 0]) 3 24 Tryz.underlying28 hi0 hz0 hz1 hz2 rfl (by decide) (.slice (some ⟨O,0,none⟩) 0 0) 0 [] (by rfl) HOx.out (.slice a3 d.claims.length k3) d.claims.length (Of.cvals d.claims) (by rfl) (row_all HAx.out.claims) (by unfold maxLen;omega) (by omega) (by omega) _ rfl ?_
  intro a9 c9 w9 hown9 hg9 hat9
  have HKD:Hid (w9.heap[w.heap.size]?=some (.cells #[.slice a1 d.eng.procs.length k1,.slice a2 d.eng.insts.length k2,.int .i64 d.eng.now,.slice a3 d.claims.length k3] 30)):=hid ((hg9.block _ (blk_lt HKDx.out) (fun e=>by have:=(HOx.out.lt e.symm).1;have:=EO.out;have:=HZq.out;have:=HLO.out;omega)).trans HKDx.out)
  have HKR:Hid (w9.heap[w.heap.size+1]?=some (.cells #[.slice none 0 0,.slice none 0 0,.int .i64 0,.slice none 0 0] 30)):=hid ((hg9.block _ (blk_lt HKRx.out) (fun e=>by have:=(HOx.out.lt e.symm).1;have:=EO.out;have:=HZq.out;have:=HLO.out;omega)).trans HKRx.out)
  have HU9:=hid (HUx.out.keep hg9.size (fun b _ hM hl=>hg9.block b hl (fun e=>by have:=(HOx.out.lt e.symm).1;have:=EO.out;omega)))
  have HB9:=hid (HBx.out.grown hg9 (by have:=HBx.out.size;omega) (fun b e=>by have:=(HOx.out.lt e).1;have:=EO.out;have:=HZq.out;have:=HLO.out;omega))
  clear hown9 hg9 hat9 HOx HUx HBx HAx HKRx HKDx hzx
  refine hK.out _ _ HKD.out (fun hHeld=>?_)
  clear hK K
  try simp only [Act.put,List.setIfInBounds_toArray,List.set_cons_zero,List.set_cons_succ]
  refine wpAnyH_take (i:=7) (v:=.agg #[.slice p1 d.eng.procs.length q1,.slice p2 d.eng.insts.length q2,.int .i64 d.eng.now,.slice a9 (0+d.claims.length) c9]) rfl (by kernel_rfl) (by kernel_rfl) (by kernel_rfl) (fun _ _ _ h=>h) (Or.inl ⟨by kernel_rfl,by intro w hSw;(try dsimp only at hSw);go_simp⟩) (by assumption) ?_
  simp only [Act.put,List.setIfInBounds_toArray,List.set_cons_zero,List.set_cons_succ]
  have t0:=blk_free HKR.out 0
  have t1:=blk_free HKR.out 1
  have t2:=blk_free HKR.out 2
  have t3:=blk_free HKR.out 3
  have z0:=blk_cell HKR.out 0
  have z1:=blk_cell HKR.out 1
  have z2:=blk_cell HKR.out 2
  have z3:=blk_cell HKR.out 3
  have zl:=blk_lt HKR.out
  obtain ⟨wF,eF⟩:∃wF,wF=((((w9.setCell ⟨w.heap.size+1,0,none⟩ (.slice p1 d.eng.procs.length q1)).setCell ⟨w.heap.size+1,1,none⟩ (.slice p2 d.eng.insts.length q2)).setCell ⟨w.heap.size+1,2,none⟩ (.int .i64 d.eng.now)).setCell ⟨w.heap.size+1,3,none⟩ (.slice a9 d.claims.length c9)):=⟨_,rfl⟩
  have KF:wF.heap[w.heap.size+1]?=some (.cells #[.slice p1 d.eng.procs.length q1,.slice p2 d.eng.insts.length q2,.int .i64 d.eng.now,.slice a9 d.claims.length c9] 30):=by rw [eF];have:=(blk_set (i:=3) (blk_set (i:=2) (blk_set (i:=1) (blk_set (i:=0) HKR.out (.slice p1 d.eng.procs.length q1)) (.slice p2 d.eng.insts.length q2)) (.int .i64 d.eng.now)) (.slice a9 d.claims.length c9));simpa using this
  have HO9:=hid (fun b (hb:b≠w.heap.size+1)=>show wF.heap[b]?=w9.heap[b]? by rw [eF];repeat rw [Below.heap_setCell _ _ _ _ (by dsimp only;omega)])
  have HZF:Hid (wF.heap.size=w9.heap.size):=hid (by rw [eF];simp [World.setCell])
  have HBF:Hid (Below w.heap.size w wF):=hid (by rw [eF];exact (((HB9.out.setCell (by simp) _).setCell (by simp) _).setCell (by simp) _).setCell (by simp) _)
  have hDF:wF.heap[w.heap.size]?=some (.cells #[.slice a1 d.eng.procs.length k1,.slice a2 d.eng.insts.length k2,.int .i64 d.eng.now,.slice a3 d.claims.length k3] 30):=(HO9.out _ (by omega)).trans HKD.out
  refine wpAnyH_ready (rs:=[8]) (by kernel_rfl) (by simp) ?_
  refine AllReadyH.cons rfl (fun K hK=>?_) AllReadyH.nil
  go_simp
  rw [←eF]
  refine hK.out _ _ hDF (fun hHeld=>?_)
  clear hK K
  try simp only [Act.put,List.setIfInBounds_toArray,List.set_cons_zero,List.set_cons_succ]
  refine wpAnyH_done (by kernel_rfl) ?_ _
  clear hHeld t0 t1 t2 t3 z0 z1 z2 z3 zl eF hDF
  obtain ⟨r0,r1,r2,r3,rf,rl⟩:=four KF
  go_wp2
  refine bodyPost_ret (v:=.agg #[.slice p1 d.eng.procs.length q1,.slice p2 d.eng.insts.length q2,.int .i64 d.eng.now,.slice a9 d.claims.length c9]) (by simp [results,Tryz.results84,go_sem,r0,r1,r2,r3]) rfl ⟨⟨_,_,_,_,rfl,?_⟩,HBF.out⟩
  exact (HU9.out.own.keep (Nat.le_of_eq HZF.out.symm) (fun b hb _=>HO9.out b (by have:=HLO.out;omega))).mono (by have:=HLO.out;omega)
 ·go_simp
  obtain ⟨x,ex⟩:∃x,x=(w0.alloc (.cells #[] 143)).drew:=⟨_,rfl⟩
  have hbx:Below w0.drew.heap.size w0.drew x:=by rw [ex];exact (Below.refl w0.drew.heap.size w0.drew).alloc (Nat.le_refl _) (.cells #[] 143)
  obtain ⟨O,eO⟩:∃O,O=w0.heap.size:=⟨_,rfl⟩
  have HOx:Hid (COwn x O (.slice (some ⟨O,0,none⟩) 0 0) []):=hid (COwn.empty (Nat.le_refl _) (by rw [ex,eO];exact new_blk _ _))
  have hzx:x.heap.size=O+1:=by rw [ex,eO];simp
  rw [←ex,←eO]
  have HWO:Hid (w.heap.size+1<O):=hid (by have:=blk_lt HKR0.out;rw [eO];exact this)
  clear ex eO
  have HKDx:Hid (x.heap[w.heap.size]?=some (.cells #[.slice a1 d.eng.procs.length k1,.slice a2 d.eng.insts.length k2,.int .i64 d.eng.now,.slice a3 d.claims.length k3] 30)):=hid ((hbx.block _ (blk_lt HKD0.out)).trans HKD0.out)
  have HKRx:=hid ((hbx.block _ (blk_lt HKR0.out)).trans HKR0.out)
  have HBx:=hid (HB0.out.trans (hbx.mono HB0.out.size))
  have HAx:=hid (HA0.out.below hbx)
  clear hbx
  refine hK.out _ _ HKDx.out (fun hHeld=>?_)
  clear hK K
  try simp only [Act.put,List.setIfInBounds_toArray,List.set_cons_zero,List.set_cons_succ]
  refine wpAnyH_ready (rs:=[2]) (by kernel_rfl) (by simp) ?_
  refine AllReadyH.cons rfl (fun K hK=>?_) AllReadyH.nil
  go_simp
  go_at_call 68
  refine (Eo.specEngineCopy 0 d.eng _ _ x HS.out.eng HAx.out.eng).mono ?_
  rintro z q ⟨⟨up,ui,rfl,hu⟩,hbu⟩
  obtain ⟨p1,q1,hp⟩:=hu.at'.procs.slice
  obtain ⟨p2,q2,hp2⟩:=hu.at'.insts.slice
  subst hp hp2
  have HKDq:=hid ((hbu.block _ (blk_lt HKDx.out)).trans HKDx.out)
  have HKRq:=hid ((hbu.block _ (blk_lt HKRx.out)).trans HKRx.out)
  have HBq:=hid (HBx.out.trans (hbu.mono HBx.out.size))
  have HAq:=hid (HAx.out.below hbu)
  have HUq:=hid (Eo.EOwnC.of hu)
  have HOq:=hid (HOx.out.below hbu)
  have HLO:Hid (w.heap.size+1<x.heap.size):=hid (blk_lt HKRx.out)
  have HZq:=hid hbu.size
  have HXO:=hid hzx
  clear hu hbu hzx
  go_wp2_with fail
  refine hK.out _ _ HKDq.out (fun hHeld=>?_)
  clear hK K
  try simp only [Act.put,List.setIfInBounds_toArray,List.set_cons_zero,List.set_cons_succ]
  refine wpAnyH_ready (rs:=[6]) (by kernel_rfl) (by simp) ?_
  refine AllReadyH.cons rfl (fun K hK=>?_) AllReadyH.nil
  refine Ap.step_any _ (by rfl) _ _ 28 (by rfl) O 143 i0 (.agg #[.int .i64 0,.int .i64 0,.int .i64 0]) 3 24 Tryz.underlying28 hi0 hz0 hz1 hz2 rfl (by decide) (.slice (some ⟨O,0,none⟩) 0 0) 0 [] (by rfl) HOq.out (.slice a3 d.claims.length k3) d.claims.length (Of.cvals d.claims) (by rfl) (row_all HAq.out.claims) (by unfold maxLen;omega) (by omega) (by have:=HZq.out;have:=HXO.out;omega) _ rfl ?_
  intro a9 c9 w9 hown9 hg9 hat9
  have HKD:Hid (w9.heap[w.heap.size]?=some (.cells #[.slice a1 d.eng.procs.length k1,.slice a2 d.eng.insts.length k2,.int .i64 d.eng.now,.slice a3 d.claims.length k3] 30)):=hid ((hg9.block _ (blk_lt HKDq.out) (fun e=>by have:=(HOq.out.lt e.symm).1;have:=HWO.out;omega)).trans HKDq.out)
  have HKR:Hid (w9.heap[w.heap.size+1]?=some (.cells #[.slice none 0 0,.slice none 0 0,.int .i64 0,.slice none 0 0] 30)):=hid ((hg9.block _ (blk_lt HKRq.out) (fun e=>by have:=(HOq.out.lt e.symm).1;have:=HWO.out;omega)).trans HKRq.out)
  have HU9:=hid (HUq.out.keep hg9.size (fun b hB _ hl=>hg9.block b hl (fun e=>by have:=(HOx.out.lt e.symm).2;omega)))
  have HB9:=hid (HBq.out.grown hg9 HBq.out.size (fun b e=>by have:=(HOq.out.lt e).1;have:=HWO.out;omega))
  clear hown9 hg9 hat9 HOq HUq HBq HAq HKRq HKDq
  refine hK.out _ _ HKD.out (fun hHeld=>?_)
  clear hK K
  try simp only [Act.put,List.setIfInBounds_toArray,List.set_cons_zero,List.set_cons_succ]
  refine wpAnyH_take (i:=7) (v:=.agg #[.slice p1 d.eng.procs.length q1,.slice p2 d.eng.insts.length q2,.int .i64 d.eng.now,.slice a9 (0+d.claims.length) c9]) rfl (by kernel_rfl) (by kernel_rfl) (by kernel_rfl) (fun _ _ _ h=>h) (Or.inl ⟨by kernel_rfl,by intro w hSw;(try dsimp only at hSw);go_simp⟩) (by assumption) ?_
  simp only [Act.put,List.setIfInBounds_toArray,List.set_cons_zero,List.set_cons_succ]
  have t0:=blk_free HKR.out 0
  have t1:=blk_free HKR.out 1
  have t2:=blk_free HKR.out 2
  have t3:=blk_free HKR.out 3
  have z0:=blk_cell HKR.out 0
  have z1:=blk_cell HKR.out 1
  have z2:=blk_cell HKR.out 2
  have z3:=blk_cell HKR.out 3
  have zl:=blk_lt HKR.out
  obtain ⟨wF,eF⟩:∃wF,wF=((((w9.setCell ⟨w.heap.size+1,0,none⟩ (.slice p1 d.eng.procs.length q1)).setCell ⟨w.heap.size+1,1,none⟩ (.slice p2 d.eng.insts.length q2)).setCell ⟨w.heap.size+1,2,none⟩ (.int .i64 d.eng.now)).setCell ⟨w.heap.size+1,3,none⟩ (.slice a9 d.claims.length c9)):=⟨_,rfl⟩
  have KF:wF.heap[w.heap.size+1]?=some (.cells #[.slice p1 d.eng.procs.length q1,.slice p2 d.eng.insts.length q2,.int .i64 d.eng.now,.slice a9 d.claims.length c9] 30):=by rw [eF];have:=(blk_set (i:=3) (blk_set (i:=2) (blk_set (i:=1) (blk_set (i:=0) HKR.out (.slice p1 d.eng.procs.length q1)) (.slice p2 d.eng.insts.length q2)) (.int .i64 d.eng.now)) (.slice a9 d.claims.length c9));simpa using this
  have HO9:=hid (fun b (hb:b≠w.heap.size+1)=>show wF.heap[b]?=w9.heap[b]? by rw [eF];repeat rw [Below.heap_setCell _ _ _ _ (by dsimp only;omega)])
  have HZF:Hid (wF.heap.size=w9.heap.size):=hid (by rw [eF];simp [World.setCell])
  have HBF:Hid (Below w.heap.size w wF):=hid (by rw [eF];exact (((HB9.out.setCell (by simp) _).setCell (by simp) _).setCell (by simp) _).setCell (by simp) _)
  have hDF:wF.heap[w.heap.size]?=some (.cells #[.slice a1 d.eng.procs.length k1,.slice a2 d.eng.insts.length k2,.int .i64 d.eng.now,.slice a3 d.claims.length k3] 30):=(HO9.out _ (by omega)).trans HKD.out
  refine wpAnyH_ready (rs:=[8]) (by kernel_rfl) (by simp) ?_
  refine AllReadyH.cons rfl (fun K hK=>?_) AllReadyH.nil
  go_simp
  rw [←eF]
  refine hK.out _ _ hDF (fun hHeld=>?_)
  clear hK K
  try simp only [Act.put,List.setIfInBounds_toArray,List.set_cons_zero,List.set_cons_succ]
  refine wpAnyH_done (by kernel_rfl) ?_ _
  clear hHeld t0 t1 t2 t3 z0 z1 z2 z3 zl eF hDF
  obtain ⟨r0,r1,r2,r3,rf,rl⟩:=four KF
  go_wp2
  refine bodyPost_ret (v:=.agg #[.slice p1 d.eng.procs.length q1,.slice p2 d.eng.insts.length q2,.int .i64 d.eng.now,.slice a9 d.claims.length c9]) (by simp [results,Tryz.results84,go_sem,r0,r1,r2,r3]) rfl ⟨⟨_,_,_,_,rfl,?_⟩,HBF.out⟩
  exact (HU9.out.own.keep (Nat.le_of_eq HZF.out.symm) (fun b hb _=>HO9.out b (by have:=HLO.out;omega))).mono (by have:=HLO.out;omega)
end Fr
end Go.Proofs.YtccklgopcjilcaaGreatDoor
/- The specification's FreeTask. No condition. -/
namespace Go.Proofs.YtccklgopcjilcaaGreatDoor
open Go.RowKit Go.Deep
set_option linter.unusedVariables false
set_option linter.unusedSimpArgs false
namespace Fr
open Go.ChangeMaps (setBlock)
open En (EngD)
open Cl (ClD)
open Eg (engC)
open Ex (hid)
open Pf (Rul)
open Dk (DeskD deskC askC heldC isU hasI openT ents of_ask of_held of_d of_claims of_claim of_one CJ CJ_eq oneC claimC claimsC TPost rg_ask look)
open Ds (Rise rise_of without ents_without insertC insert_perm insert_rise ents_snoc same_of LPost)
open Of (who who_or COwn)
open Eo (EOwn EOwnC PRow IRow)
open Ch (blk_cell blk_lt blk_free blk_set new_blk new_at)
open Dk (held_ask held_user held_ok)
set_option maxRecDepth 100000 in
set_option maxHeartbeats 8000000 in
theorem specFree (B:Nat) (d:DeskD) (u i s:Int) (vp vi vc:Value) (w:World) (hs:Dk.Small 1048576 d) (ha:Dk.At w B vp vi vc d):
    Calls Tryz.prog 44 #[.agg #[vp,vi,.int .i64 d.eng.now,vc],.int .i64 u,.int .i64 i,.int .i64 s] w (DPost (heldC d u i s) (freeD d u i s) w):=by
 have HAW:=hid ha
 obtain ⟨⟨a1,k1,rfl⟩,⟨a2,k2,rfl⟩,a3,k3,rfl⟩:=ha.slices
 obtain ⟨w0,e0⟩:∃w0,w0=(w.alloc (.cells #[.slice a1 d.eng.procs.length k1,.slice a2 d.eng.insts.length k2,.int .i64 d.eng.now,.slice a3 d.claims.length k3] 30)).alloc (.cells #[.int .i64 0,.int .i64 0,.slice none 0 0,.slice none 0 0,.int .i64 0,.slice none 0 0] 73):=⟨_,rfl⟩
 have hb0:Below w.heap.size w w0:=by rw [e0];exact ((Below.refl _ w).alloc (Nat.le_refl _) _).alloc (by simp) _
 have HK0:Hid (w0.heap[w.heap.size]?=some (.cells #[.slice a1 d.eng.procs.length k1,.slice a2 d.eng.insts.length k2,.int .i64 d.eng.now,.slice a3 d.claims.length k3] 30)):=hid (by rw [e0,Below.heap_alloc _ _ _ (by simp),new_blk])
 have HR0:Hid (w0.heap[w.heap.size+1]?=some (.cells #[.int .i64 0,.int .i64 0,.slice none 0 0,.slice none 0 0,.int .i64 0,.slice none 0 0] 73)):=hid (by rw [e0];exact new_at (by simp) _)
 have HC:=hid (specAsked B w.heap.size d u i s _ _ _ w0 hs (ha.below hb0) HK0.out)
 have HB0:=hid hb0
 have HS:=hid hs
 clear ha hb0 hs
 go_enter Tryz.func44,Tryz.ntmps44
 go_wp2_with fail
 rw [←e0]
 clear e0
 refine HC.out.mono ?_
 rintro z w1 ⟨rfl,hb1⟩
 have HB1:=hid (HB0.out.trans (hb1.mono HB0.out.size))
 have HK1:=hid ((hb1.block _ (blk_lt HK0.out)).trans HK0.out)
 have HR1:=hid ((hb1.block _ (blk_lt HR0.out)).trans HR0.out)
 have HA1:=hid (HAW.out.below HB1.out)
 clear hb1 HK0 HR0 HC HB0
 by_cases hz:askC d u i s=0
 case neg=>
  have HX:=hid (Dk.held_ask hz)
  have HY:=hid (free_bad (show heldC d u i s≠0 by rw [HX.out];exact hz))
  have b0:(askC d u i s != 0)=true:=bne_iff_ne.2 hz
  generalize askC d u i s=pc at *
  clear hz HK1 HA1 HS HAW
  have HD:=hid (fun w'=>specBad pc w')
  go_wp2_with fail
  refine (HD.out _).mono ?_
  rintro z w2 ⟨rfl,hb2⟩
  have HR2:=hid ((hb2.block _ (blk_lt HR1.out)).trans HR1.out)
  have HB2:=hid (HB1.out.trans (hb2.mono HB1.out.size))
  clear hb2 HD HR1 HB1
  obtain ⟨n0,n1,n2,n3,n4,n5,nf,nl⟩:=six HR2.out
  have f0:=nf 0
  have f1:=nf 1
  have f2:=nf 2
  have f3:=nf 3
  have f4:=nf 4
  have f5:=nf 5
  clear nf
  obtain ⟨w9,e9⟩:∃w9,w9=((((((w2.setCell ⟨w.heap.size+1,0,none⟩ (.int .i64 pc)).setCell ⟨w.heap.size+1,1,none⟩ (.int .i64 0)).setCell ⟨w.heap.size+1,2,none⟩ (.slice none 0 0)).setCell ⟨w.heap.size+1,3,none⟩ (.slice none 0 0)).setCell ⟨w.heap.size+1,4,none⟩ (.int .i64 0)).setCell ⟨w.heap.size+1,5,none⟩ (.slice none 0 0)):=⟨_,rfl⟩
  have K9:w9.heap[w.heap.size+1]?=some (.cells #[.int .i64 pc,.int .i64 0,.slice none 0 0,.slice none 0 0,.int .i64 0,.slice none 0 0] 73):=by rw [e9];have:=(blk_set (i:=5) (blk_set (i:=4) (blk_set (i:=3) (blk_set (i:=2) (blk_set (i:=1) (blk_set (i:=0) HR2.out (.int .i64 pc)) (.int .i64 0)) (.slice none 0 0)) (.slice none 0 0)) (.int .i64 0)) (.slice none 0 0));simpa using this
  have HB9:Hid (Below w.heap.size w w9):=hid (by rw [e9];exact below6 HB2.out (by omega) _ _ _ _ _ _)
  have HO9:=hid (fun b (hb:b≠w.heap.size+1)=>show w9.heap[b]?=w2.heap[b]? by rw [e9];repeat rw [Below.heap_setCell _ _ _ _ (by dsimp only;omega)])
  have HZ9:Hid (w9.heap.size=w2.heap.size):=hid (by rw [e9];simp [World.setCell])
  go_wp2
  rw [←e9]
  clear e9
  obtain ⟨r0,r1,r2,r3,r4,r5,_,_⟩:=six K9
  refine bodyPost_ret (v:=.agg #[.int .i64 pc,.int .i64 0,.slice none 0 0,.slice none 0 0,.int .i64 0,.slice none 0 0]) (by simp [results,Tryz.results44,go_sem,r0,r1,r2,r3,r4,r5]) rfl ?_
  exact DPost.bad HX.out HY.out HB9.out
 have HZ:=hid hz
 rw [hz]
 have b0:((0:Int) != 0)=false:=rfl
 clear hz
 have HW:=hid (Of.specWho B w.heap.size d _ _ _ i s w1 HS.out HA1.out HK1.out)
 go_wp2_with fail
 refine HW.out.mono ?_
 rintro z w2 ⟨rfl,hw⟩
 replace hw:=hw.symm
 subst hw
 clear HW
 by_cases hu:who d.claims i s=u
 case neg=>
  have HX:=hid (Dk.held_user HZ.out hu)
  have HY:=hid (free_bad (show heldC d u i s≠0 by rw [HX.out];decide))
  have b1:(who d.claims i s != u)=true:=bne_iff_ne.2 hu
  generalize who d.claims i s=x at *
  clear hu HK1 HA1 HS HAW
  have HD:=hid (fun w'=>specBad 10 w')
  go_wp2_with fail
  refine (HD.out _).mono ?_
  rintro z w2 ⟨rfl,hb2⟩
  have HR2:=hid ((hb2.block _ (blk_lt HR1.out)).trans HR1.out)
  have HB2:=hid (HB1.out.trans (hb2.mono HB1.out.size))
  clear hb2 HD HR1 HB1
  obtain ⟨n0,n1,n2,n3,n4,n5,nf,nl⟩:=six HR2.out
  have f0:=nf 0
  have f1:=nf 1
  have f2:=nf 2
  have f3:=nf 3
  have f4:=nf 4
  have f5:=nf 5
  clear nf
  obtain ⟨w9,e9⟩:∃w9,w9=((((((w2.setCell ⟨w.heap.size+1,0,none⟩ (.int .i64 10)).setCell ⟨w.heap.size+1,1,none⟩ (.int .i64 0)).setCell ⟨w.heap.size+1,2,none⟩ (.slice none 0 0)).setCell ⟨w.heap.size+1,3,none⟩ (.slice none 0 0)).setCell ⟨w.heap.size+1,4,none⟩ (.int .i64 0)).setCell ⟨w.heap.size+1,5,none⟩ (.slice none 0 0)):=⟨_,rfl⟩
  have K9:w9.heap[w.heap.size+1]?=some (.cells #[.int .i64 10,.int .i64 0,.slice none 0 0,.slice none 0 0,.int .i64 0,.slice none 0 0] 73):=by rw [e9];have:=(blk_set (i:=5) (blk_set (i:=4) (blk_set (i:=3) (blk_set (i:=2) (blk_set (i:=1) (blk_set (i:=0) HR2.out (.int .i64 10)) (.int .i64 0)) (.slice none 0 0)) (.slice none 0 0)) (.int .i64 0)) (.slice none 0 0));simpa using this
  have HB9:Hid (Below w.heap.size w w9):=hid (by rw [e9];exact below6 HB2.out (by omega) _ _ _ _ _ _)
  have HO9:=hid (fun b (hb:b≠w.heap.size+1)=>show w9.heap[b]?=w2.heap[b]? by rw [e9];repeat rw [Below.heap_setCell _ _ _ _ (by dsimp only;omega)])
  have HZ9:Hid (w9.heap.size=w2.heap.size):=hid (by rw [e9];simp [World.setCell])
  go_wp2
  rw [←e9]
  clear e9
  obtain ⟨r0,r1,r2,r3,r4,r5,_,_⟩:=six K9
  refine bodyPost_ret (v:=.agg #[.int .i64 10,.int .i64 0,.slice none 0 0,.slice none 0 0,.int .i64 0,.slice none 0 0]) (by simp [results,Tryz.results44,go_sem,r0,r1,r2,r3,r4,r5]) rfl ?_
  exact DPost.bad HX.out HY.out HB9.out
 have HXC:=hid (Dk.held_ok HZ.out hu)
 have HXD:=hid (free_ok HXC.out)
 have b1:(who d.claims i s != u)=false:=by simp [hu]
 generalize who d.claims i s=x at *
 clear hu
 have HCP:=hid (specCopy B d _ _ _ w1 HS.out HA1.out)
 have m0:=blk_cell HK1.out 0
 have m1:=blk_cell HK1.out 1
 have m2:=blk_cell HK1.out 2
 have m3:=blk_cell HK1.out 3
 have ml:=blk_lt HK1.out
 go_wp2_with fail
 refine HCP.out.mono ?_
 rintro z w2 ⟨⟨up,ui,ac,kc,rfl,hu⟩,hb2⟩
 obtain ⟨p1,q1,hp⟩:=hu.at'.procs.slice
 obtain ⟨p2,q2,hp2⟩:=hu.at'.insts.slice
 subst hp hp2
 have HB2:=hid (HB1.out.trans (hb2.mono HB1.out.size))
 have HK2:=hid ((hb2.block _ (blk_lt HK1.out)).trans HK1.out)
 have HR2:=hid ((hb2.block _ (blk_lt HR1.out)).trans HR1.out)
 have HU2:=hid (Eo.EOwnC.of hu)
 have HZ12:=hid hb2.size
 have HLO:Hid (w.heap.size+1<w1.heap.size):=hid (blk_lt HR1.out)
 clear hu hb2 HCP HK1 HR1 HB1 HA1 m0 m1 m2 m3 ml
 obtain ⟨w3,e3⟩:∃w3,w3=w2.alloc (.cells #[.slice p1 d.eng.procs.length q1,.slice p2 d.eng.insts.length q2,.int .i64 d.eng.now,.slice ac d.claims.length kc] 30):=⟨_,rfl⟩
 obtain ⟨O,eO⟩:∃O,O=w2.heap.size:=⟨_,rfl⟩
 have hb3:Below w2.heap.size w2 w3:=by rw [e3];exact (Below.refl _ w2).alloc (Nat.le_refl _) _
 have HO3:Hid (w3.heap[O]?=some (.cells #[.slice p1 d.eng.procs.length q1,.slice p2 d.eng.insts.length q2,.int .i64 d.eng.now,.slice ac d.claims.length kc] 30)):=hid (by rw [e3,eO];exact new_blk _ _)
 have HB3:=hid (HB2.out.trans (hb3.mono HB2.out.size))
 have HR3:=hid ((hb3.block _ (blk_lt HR2.out)).trans HR2.out)
 have HU3:=hid (HU2.out.below hb3)
 have HRO:Hid (w.heap.size+1<O∧w2.heap.size≤O∧w3.heap.size=O+1):=hid ⟨by rw [eO];exact blk_lt HR2.out,by rw [eO];exact Nat.le_refl _,by rw [e3,eO];simp⟩
 have HWO:=hid (specWithout B d.claims i s _ w3 (by have:=HS.out.claims;omega) (HAW.out.below HB3.out).claims)
 have m3:=blk_cell HK2.out 3
 have ml:=blk_lt HK2.out
 clear hb3 HU2 HR2 HB2
 go_wp2_with fail
 rw [←e3,←eO]
 clear e3 eO m3 ml HK2
 refine HWO.out.mono ?_
 rintro z w4 ⟨⟨uu,rfl,hc⟩,hb4⟩
 obtain ⟨c1,c2,hc3⟩:=hc.slice
 subst hc3
 have HB4:=hid (HB3.out.trans (hb4.mono HB3.out.size))
 have HO4:=hid ((hb4.block _ (blk_lt HO3.out)).trans HO3.out)
 have HR4:=hid ((hb4.block _ (blk_lt HR3.out)).trans HR3.out)
 have HU4:=hid (HU3.out.below hb4)
 have HC4:=hid hc
 have HZ34:=hid hb4.size
 clear hc hb4 HWO HO3 HR3 HU3 HB3
 have hro:=HRO.out.1
 have g0:=blk_cell HO4.out 0
 have g1:=blk_cell HO4.out 1
 have g2:=blk_cell HO4.out 2
 have g3:=blk_cell HO4.out 3
 have h3:=blk_free HO4.out 3
 have gl:=blk_lt HO4.out
 obtain ⟨wS,eS⟩:∃wS,wS=w4.setCell ⟨O,3,none⟩ (.slice c1 (without d.claims i s).length c2):=⟨_,rfl⟩
 have HRS:Hid (wS.heap[w.heap.size+1]?=some (.cells #[.int .i64 0,.int .i64 0,.slice none 0 0,.slice none 0 0,.int .i64 0,.slice none 0 0] 73)):=hid (by rw [eS,Below.heap_setCell _ _ _ _ (by dsimp only;omega)];exact HR4.out)
 have HBS:Hid (Below w.heap.size w wS):=hid (by rw [eS];exact HB4.out.setCell (by simp;omega) _)
 have HOS:=hid (fun b (hb:b≠O)=>show wS.heap[b]?=w4.heap[b]? by rw [eS];exact Below.heap_setCell _ _ _ _ (by dsimp only;omega))
 have HZS:Hid (wS.heap.size=w4.heap.size):=hid (by rw [eS];simp [World.setCell])
 obtain ⟨n0,n1,n2,n3,n4,n5,nf,nl⟩:=six HR4.out
 have f0:=nf 0
 have f1:=nf 1
 have f2:=nf 2
 have f3:=nf 3
 have f4:=nf 4
 have f5:=nf 5
 clear nf
 obtain ⟨w9,e9⟩:∃w9,w9=((((((wS.setCell ⟨w.heap.size+1,0,none⟩ (.int .i64 0)).setCell ⟨w.heap.size+1,1,none⟩ (.int .i64 0)).setCell ⟨w.heap.size+1,2,none⟩ (.slice p1 d.eng.procs.length q1)).setCell ⟨w.heap.size+1,3,none⟩ (.slice p2 d.eng.insts.length q2)).setCell ⟨w.heap.size+1,4,none⟩ (.int .i64 d.eng.now)).setCell ⟨w.heap.size+1,5,none⟩ (.slice c1 (without d.claims i s).length c2)):=⟨_,rfl⟩
 have K9:w9.heap[w.heap.size+1]?=some (.cells #[.int .i64 0,.int .i64 0,.slice p1 d.eng.procs.length q1,.slice p2 d.eng.insts.length q2,.int .i64 d.eng.now,.slice c1 (without d.claims i s).length c2] 73):=by rw [e9];have:=(blk_set (i:=5) (blk_set (i:=4) (blk_set (i:=3) (blk_set (i:=2) (blk_set (i:=1) (blk_set (i:=0) HRS.out (.int .i64 0)) (.int .i64 0)) (.slice p1 d.eng.procs.length q1)) (.slice p2 d.eng.insts.length q2)) (.int .i64 d.eng.now)) (.slice c1 (without d.claims i s).length c2));simpa using this
 have HB9:Hid (Below w.heap.size w w9):=hid (by rw [e9];exact below6 HBS.out (by omega) _ _ _ _ _ _)
 have HO9:=hid (fun b (hb:b≠w.heap.size+1)=>show w9.heap[b]?=wS.heap[b]? by rw [e9];repeat rw [Below.heap_setCell _ _ _ _ (by dsimp only;omega)])
 have HZ9:Hid (w9.heap.size=wS.heap.size):=hid (by rw [e9];simp [World.setCell])
 go_wp2
 rw [←eS,←e9]
 clear eS e9
 obtain ⟨r0,r1,r2,r3,r4,r5,_,_⟩:=six K9
 refine bodyPost_ret (v:=.agg #[.int .i64 0,.int .i64 0,.slice p1 d.eng.procs.length q1,.slice p2 d.eng.insts.length q2,.int .i64 d.eng.now,.slice c1 (without d.claims i s).length c2]) (by simp [results,Tryz.results44,go_sem,r0,r1,r2,r3,r4,r5]) rfl ?_
 rw [HXC.out,HXD.out]
 refine ⟨⟨_,_,_,w2.heap.size,rfl,?_,?_,?_,by rw [HZ9.out,HZS.out];have:=HRO.out;have:=HZ34.out;omega⟩,HB9.out⟩
 ·exact Fr.EOwnC.lower ((HU4.out.keep (Nat.le_of_eq HZS.out.symm) (fun b _ hM _=>HOS.out b (by have:=HRO.out;omega))).keep (Nat.le_of_eq HZ9.out.symm) (fun b hb _ _=>HO9.out b (by have:=HLO.out;omega))) (by have:=HLO.out;omega)
 ·exact ((HC4.out.kept (fun b e=>HOS.out b (by have:=(HC4.out.lt e).1;have:=HRO.out;omega))).kept (fun b e=>HO9.out b (by have:=(HC4.out.lt e).1;have:=HRO.out;omega))).mono (by have:=HRO.out;omega)
 ·have:=HZ12.out;have:=HLO.out;omega
end Fr
end Go.Proofs.YtccklgopcjilcaaGreatDoor
/- Whether the law's marks still stand in an engine that a function has made itself, and the comparison of two answers. -/
namespace Go.Proofs.YtccklgopcjilcaaGreatDoor
open Go.RowKit Go.Deep
set_option linter.unusedVariables false
namespace Eo
open Ex (hid)
open St (StepD)
open Ei (InstD)
open En (EngD)
open Nst (own own_lt)
open Ch (blk_cell new_blk blk_lt new_at)
theorem kE_pos {k0:Nat} {e:EngD} (hf:FewE e) (h0:0<k0):0<kE k0 e:=by
 have h1:=kI_le (k0:=(kP k0 e.procs e.procs.length:Int)) hf.insts e.insts.length (Nat.le_refl _)
 have h2:=kP_pos h0 e.procs e.procs.length
 unfold kE;omega
set_option maxRecDepth 100000 in
set_option maxHeartbeats 2000000 in
theorem heldE (B k0:Nat) (e:EngD) (n:Int) (vp vi:Value) (w:World) (hf:FewE e) (h0:0<k0) (hk0:k0≤800000) (h:En.At w B vp vi (mkE k0 e)):
    Calls Tryz.prog 79 #[.agg #[vp,vi,.int .i64 n],.int .i64 (k0:Int)] w fun z w'=>z=.returned (.int .i64 (kE k0 e))∧Below w.heap.size w w':=by
 obtain ⟨a1,k1,hv1⟩:=h.procs.slice
 obtain ⟨a2,k2,hv2⟩:=h.insts.slice
 rw [mkE_np] at hv1
 rw [mkE_ni] at hv2
 subst hv1 hv2
 obtain ⟨w0,e0⟩:∃w0,w0=w.alloc (.cells #[.slice a1 e.procs.length k1,.slice a2 e.insts.length k2,.int .i64 n] 27):=⟨_,rfl⟩
 have hb0:Below w.heap.size w w0:=by rw [e0];exact (Below.refl _ w).alloc (Nat.le_refl _) _
 have K0:w0.heap[w.heap.size]?=some (.cells #[.slice a1 e.procs.length k1,.slice a2 e.insts.length k2,.int .i64 n] 27):=by rw [e0];exact new_blk _ _
 have HI0:=hid (h.below hb0).insts
 have HM1:=hid (heldP B k0 e.procs _ w0 hf.procs h0 hk0 (h.below hb0).procs)
 have HF:=hid hf
 have HB0:=hid hb0
 have hkp:=kP_le (k0:=k0) hf.procs e.procs.length (Nat.le_refl _)
 have hpp:=kP_pos h0 e.procs e.procs.length
 have hl:=hf.procs.len
 have hkb:(kP k0 e.procs e.procs.length:Int)≤1000000:=by omega
 have q1:¬(kP k0 e.procs e.procs.length:Int)<0:=by omega
 have hke:=kE_pos hf h0
 have q2:¬kI (kP k0 e.procs e.procs.length:Int) e.insts e.insts.length<0:=by unfold kE at hke;omega
 clear h hb0 hf hkp hl hke
 go_enter Tryz.func79,Tryz.ntmps79
 go_wp2_with fail
 rw [←e0]
 clear e0
 refine HM1.out.mono ?_
 rintro z w1 ⟨rfl,hb1⟩
 have HB1:=hid (HB0.out.trans (hb1.mono HB0.out.size))
 have K1:w1.heap[w.heap.size]?=some (.cells #[.slice a1 e.procs.length k1,.slice a2 e.insts.length k2,.int .i64 n] 27):=(hb1.block _ (blk_lt K0)).trans K0
 have c1:w1.cell? ⟨w.heap.size,1,none⟩=some (.slice a2 e.insts.length k2):=by rw [blk_cell K1];rfl
 have m1:=blk_lt K1
 have HM2:=hid (heldI B (kP k0 e.procs e.procs.length:Int) e.insts _ w1 HF.out.insts (by omega) hkb (HI0.out.below hb1))
 clear hb1 K0 K1 HM1 hpp
 go_wp2_with fail
 refine HM2.out.mono ?_
 rintro z w2 ⟨rfl,hb2⟩
 have HB2:=hid (HB1.out.trans (hb2.mono HB1.out.size))
 clear hb2
 go_wp2
 go_ret
 exact ⟨rfl,HB2.out⟩
end Eo
end Go.Proofs.YtccklgopcjilcaaGreatDoor
