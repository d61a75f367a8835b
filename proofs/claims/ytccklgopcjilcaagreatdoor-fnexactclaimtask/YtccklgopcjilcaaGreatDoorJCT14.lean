/- Laid together: EnA, ClA. -/
import Derived.Test.YtccklgopcjilcaaGreatDoorJCT12
import Derived.Test.YtccklgopcjilcaaGreatDoorJCT13
import Derived.Test.YtccklgopcjilcaaGreatDoorJCT8
import Derived.Test.YtccklgopcjilcaaGreatDoorJCT1
/- An engine in memory: processes, instances, a time; the law's measure of it, its copy, its comparison; an argument that is one. -/
namespace Go.Proofs.YtccklgopcjilcaaGreatDoor
open Go.RowKit Go.Deep
set_option linter.unusedVariables false
namespace En
open Ex (hid)
open St (StepD old_cell old_free setB)
open Ei (InstD)
open Ch (blk_set blk_cell blk_free new_blk new_at blk_lt)
structure EngD where
 procs:List (List StepD)
 insts:List InstD
 now:Int
structure At (w:World) (B:Nat) (vp vi:Value) (e:EngD):Prop where
 procs:Ep.At w B vp e.procs
 insts:Ei.At w B vi e.insts
theorem At.kept {w w':World} {B:Nat} {vp vi:Value} {e:EngD} (h:At w B vp vi e) (hs:w.heap.size≤w'.heap.size) (hb:∀g,B≤g→g<w.heap.size→w'.heap[g]?=w.heap[g]?):At w' B vp vi e:=⟨h.procs.kept hs hb,h.insts.kept hs hb⟩
theorem At.below {w w':World} {B:Nat} {vp vi:Value} {e:EngD} (h:At w B vp vi e) (hb:Below w.heap.size w w'):At w' B vp vi e:=⟨h.procs.below hb,h.insts.below hb⟩
theorem At.mono {w:World} {B B':Nat} {vp vi:Value} {e:EngD} (h:At w B vp vi e) (hB:B'≤B):At w B' vp vi e:=⟨h.procs.mono hB,h.insts.mono hB⟩
structure Ok (e:EngD):Prop where
 procs:Ep.Ok e.procs
 np:e.procs.length≤maxLen
 insts:Ei.Ok e.insts
 ni:e.insts.length≤maxLen
structure Small (n:Int) (e:EngD):Prop where
 procs:Ep.Small n e.procs
 insts:Ei.Small n e.insts
 wt:(Ep.wt e.procs:Int)≤n
theorem Small.mono {m n:Int} {e:EngD} (h:Small m e) (hm:m≤n):Small n e:=⟨h.procs.mono hm,h.insts.mono hm,Int.le_trans h.wt hm⟩
structure Own (w:World) (B C:Nat) (vp vi:Value) (e:EngD):Prop where
 ex:∃M,B≤M∧M≤C∧Ep.Own w B M vp e.procs.length e.procs∧Ei.Own w M C vi e.insts.length e.insts
theorem Own.kept {w w':World} {B C:Nat} {vp vi:Value} {e:EngD} (h:Own w B C vp vi e) (hb:∀g,B≤g→g<C→g<w.heap.size→w'.heap[g]?=w.heap[g]?):Own w' B C vp vi e:=by
 obtain ⟨M,b1,b2,h1,h2⟩:=h.ex
 exact ⟨M,b1,b2,h1.kept (fun g g1 g2 g3=>hb g g1 (by omega) g3),h2.kept (fun g g1 g2 g3=>hb g (by omega) g2 g3)⟩
theorem Own.below {w w':World} {B C:Nat} {vp vi:Value} {e:EngD} (h:Own w B C vp vi e) (hb:Below w.heap.size w w'):Own w' B C vp vi e:=h.kept (fun g _ _ hg=>hb.block g hg)
theorem Own.mono {w:World} {B B' C C':Nat} {vp vi:Value} {e:EngD} (h:Own w B C vp vi e) (hB:B'≤B) (hC:C≤C'):Own w B' C' vp vi e:=by
 obtain ⟨M,b1,b2,h1,h2⟩:=h.ex
 exact ⟨M,by omega,by omega,h1.mono hB (Nat.le_refl _),h2.mono (Nat.le_refl _) hC⟩
set_option maxRecDepth 100000 in
set_option maxHeartbeats 2000000 in
theorem sz (B:Nat) (e:EngD) (vp vi:Value) (n:Int) (w:World) (h0:0≤n) (hn:n≤1048576) (hk:Ok e) (ha:At w B vp vi e):
    Calls Tryz.prog 26 #[.agg #[vp,vi,.int .i64 e.now],.int .i64 n] w fun z w'=>(∃x:Int,z=.returned (.int .i64 x)∧-1≤x∧x≤n∧(0≤x→Small n e))∧Below w.heap.size w w':=by
 obtain ⟨a1,k1,rfl⟩:=ha.procs.slice
 obtain ⟨a2,k2,rfl⟩:=ha.insts.slice
 have HB:Hid (Below w.heap.size w (w.alloc (.cells #[.slice a1 e.procs.length k1,.slice a2 e.insts.length k2,.int .i64 e.now] 47))):=hid ((Below.refl _ w).alloc (Nat.le_refl _) _)
 have HK:=hid hk
 have HA:=hid (ha.below HB.out)
 have hc:(w.alloc (.cells #[.slice a1 e.procs.length k1,.slice a2 e.insts.length k2,.int .i64 e.now] 47)).heap[w.heap.size]?=some (.cells #[.slice a1 e.procs.length k1,.slice a2 e.insts.length k2,.int .i64 e.now] 47):=new_blk _ _
 clear ha hk
 go_enter Tryz.func26,Tryz.ntmps26
 go_wp2_with fail
 generalize w.alloc (.cells #[.slice a1 e.procs.length k1,.slice a2 e.insts.length k2,.int .i64 e.now] 47)=w0 at *
 refine (Ep.szS B e.procs _ n w0 h0 hn HK.out.np HK.out.procs HA.out.procs).mono ?_
 rintro z w1 ⟨⟨x1,rfl,p1,p2,p3⟩,hb1⟩
 have HB1:=hid (HB.out.trans (hb1.mono HB.out.size))
 have HA1:=hid (HA.out.below hb1)
 have hc1:=(hb1.block _ (blk_lt hc)).trans hc
 clear hb1 HB HA hc
 by_cases q1:x1<0
 ·clear hc1
  go_wp2
  go_ret
  exact ⟨⟨-1,rfl,by omega,by omega,by omega⟩,HB1.out⟩
 have P3:=hid (p3 (by omega))
 have c1:=blk_cell hc1 1
 have l1:=blk_lt hc1
 replace c1:w1.cell? ⟨w.heap.size,1,none⟩=some (.slice a2 e.insts.length k2):=c1
 clear p3 hc1
 go_wp2_with fail
 refine (Ei.szS B e.insts _ x1 w1 (by omega) (by omega) HK.out.ni HK.out.insts HA1.out.insts).mono ?_
 rintro z w2 ⟨⟨x2,rfl,s1,s2,s3⟩,hb2⟩
 have HB2:=hid (HB1.out.trans (hb2.mono HB1.out.size))
 clear hb2 c1 l1
 by_cases q2:x2<0
 ·go_wp2
  go_ret
  exact ⟨⟨-1,rfl,by omega,by omega,by omega⟩,HB2.out⟩
 have S3:=hid (s3 (by omega))
 clear s3
 go_wp2
 go_ret
 exact ⟨⟨x2,rfl,by omega,by omega,fun _=>⟨P3.out.1,S3.out.1.mono (by omega),by have:=P3.out.2;omega⟩⟩,HB2.out⟩
set_option maxRecDepth 100000 in
set_option maxHeartbeats 4000000 in
theorem to2 (B:Nat) (e:EngD) (vp vi:Value) (w:World) (hl:Small 1048576 e) (ha:At w B vp vi e):
    Calls Tryz.prog 28 #[.agg #[vp,vi,.int .i64 e.now]] w fun z w'=>∃up ui,z=.returned (.agg #[up,ui,.int .i64 e.now])∧At w' w.heap.size up ui e∧Own w' w.heap.size w'.heap.size up ui e∧Below w.heap.size w w':=by
 obtain ⟨a1,k1,rfl⟩:=ha.procs.slice
 obtain ⟨a2,k2,rfl⟩:=ha.insts.slice
 have HL:=hid hl
 have HA:=hid ha
 have KB:Hid (Below w.heap.size w (((w.alloc (.cells #[.slice a1 e.procs.length k1,.slice a2 e.insts.length k2,.int .i64 e.now] 47)).alloc (.cells #[.slice none 0 0,.slice none 0 0,.int .i64 0] 27)).alloc (.cells #[.slice none 0 0,.slice none 0 0,.int .i64 0] 27))):=hid ((((Below.refl _ w).alloc (Nat.le_refl _) _).alloc (by simp) _).alloc (by simp;omega) _)
 have K0:Hid ((((w.alloc (.cells #[.slice a1 e.procs.length k1,.slice a2 e.insts.length k2,.int .i64 e.now] 47)).alloc (.cells #[.slice none 0 0,.slice none 0 0,.int .i64 0] 27)).alloc (.cells #[.slice none 0 0,.slice none 0 0,.int .i64 0] 27)).heap[w.heap.size]?=some (.cells #[.slice a1 e.procs.length k1,.slice a2 e.insts.length k2,.int .i64 e.now] 47)):=hid (by rw [Below.heap_alloc _ _ _ (by simp;omega),Below.heap_alloc _ _ _ (by simp),new_blk])
 have K1:Hid ((((w.alloc (.cells #[.slice a1 e.procs.length k1,.slice a2 e.insts.length k2,.int .i64 e.now] 47)).alloc (.cells #[.slice none 0 0,.slice none 0 0,.int .i64 0] 27)).alloc (.cells #[.slice none 0 0,.slice none 0 0,.int .i64 0] 27)).heap[w.heap.size+1]?=some (.cells #[.slice none 0 0,.slice none 0 0,.int .i64 0] 27)):=hid (by rw [Below.heap_alloc _ _ _ (by simp)];exact new_at (by simp) _)
 have K2:Hid ((((w.alloc (.cells #[.slice a1 e.procs.length k1,.slice a2 e.insts.length k2,.int .i64 e.now] 47)).alloc (.cells #[.slice none 0 0,.slice none 0 0,.int .i64 0] 27)).alloc (.cells #[.slice none 0 0,.slice none 0 0,.int .i64 0] 27)).heap[w.heap.size+1+1]?=some (.cells #[.slice none 0 0,.slice none 0 0,.int .i64 0] 27)):=hid (new_at (by simp) _)
 clear ha hl
 go_enter Tryz.func28,Tryz.ntmps28
 go_wp2_with fail
 generalize ((w.alloc (.cells #[.slice a1 e.procs.length k1,.slice a2 e.insts.length k2,.int .i64 e.now] 47)).alloc (.cells #[.slice none 0 0,.slice none 0 0,.int .i64 0] 27)).alloc (.cells #[.slice none 0 0,.slice none 0 0,.int .i64 0] 27)=w0 at *
 refine (Ep.toS2 B e.procs _ w0 HL.out.procs (HA.out.below KB.out).procs).mono ?_
 rintro z w1 ⟨u1,rfl,hu,ho,hb⟩
 obtain ⟨x1,y1,rfl⟩:=hu.slice
 have KB1:=hid (KB.out.trans (hb.mono KB.out.size))
 have z0:=blk_lt K2.out
 have K01:=hid ((hb.block _ (blk_lt K0.out)).trans K0.out)
 have K11:=hid ((hb.block _ (blk_lt K1.out)).trans K1.out)
 have K21:=hid ((hb.block _ (blk_lt K2.out)).trans K2.out)
 have G0:=hid (blk_cell K21.out 0)
 have g2:=blk_free K21.out 0
 have z1:=blk_lt K21.out
 have g1:w1.cell? ⟨w.heap.size+1+1,0,none⟩=some (.slice none 0 0):=by rw [G0.out];rfl
 have HU:=hid hu
 have HO:=hid ho
 clear hu ho KB K0 K1 K2 G0
 have b1:w1.cell? ⟨w.heap.size,1,none⟩=some (.slice a2 e.insts.length k2):=by rw [blk_cell K01.out];rfl
 have hbz:=hb.size
 clear hb
 have KBs:Hid (Below w.heap.size w (w1.setCell ⟨w.heap.size+1+1,0,none⟩ (.slice x1 e.procs.length y1))):=hid (setB KB1.out (by omega) _)
 have K0s:=hid ((Below.heap_setCell w1 ⟨w.heap.size+1+1,0,none⟩ (.slice x1 e.procs.length y1) w.heap.size (by dsimp only;omega)).trans K01.out)
 have E1:Hid ((w1.setCell ⟨w.heap.size+1+1,0,none⟩ (.slice x1 e.procs.length y1)).cell? ⟨w.heap.size,1,none⟩=some (.slice a2 e.insts.length k2)):=hid (by rw [blk_cell K0s.out];rfl)
 have K1s:=hid ((Below.heap_setCell w1 ⟨w.heap.size+1+1,0,none⟩ (.slice x1 e.procs.length y1) (w.heap.size+1) (by dsimp only;omega)).trans K11.out)
 have K2s:Hid ((w1.setCell ⟨w.heap.size+1+1,0,none⟩ (.slice x1 e.procs.length y1)).heap[w.heap.size+1+1]?=some (.cells #[.slice x1 e.procs.length y1,.slice none 0 0,.int .i64 0] 27)):=hid (by have:=blk_set (i:=0) K21.out (.slice x1 e.procs.length y1);simpa using this)
 have HUs:Hid (Ep.At (w1.setCell ⟨w.heap.size+1+1,0,none⟩ (.slice x1 e.procs.length y1)) (w.heap.size+1+1+1) (.slice x1 e.procs.length y1) e.procs):=hid ((HU.out.mono (by omega)).setBelow (by omega) _)
 have HOs:Hid (Ep.Own (w1.setCell ⟨w.heap.size+1+1,0,none⟩ (.slice x1 e.procs.length y1)) (w.heap.size+1+1+1) w1.heap.size (.slice x1 e.procs.length y1) e.procs.length e.procs):=hid ((HO.out.mono (by omega) (Nat.le_refl _)).setBelow (by omega) _)
 have hsz:(w1.setCell ⟨w.heap.size+1+1,0,none⟩ (.slice x1 e.procs.length y1)).heap.size=w1.heap.size:=by simp [World.setCell]
 have HSZ:=hid hsz
 have zl:w.heap.size<w1.heap.size:=by omega
 clear KB1 K01 K11 K21 HU HO b1 hsz
 have e1:=E1.out
 have z3:=blk_lt K2s.out
 have z4:=blk_lt K0s.out
 go_wp2_with fail
 generalize w1.setCell ⟨w.heap.size+1+1,0,none⟩ (.slice x1 e.procs.length y1)=wA at *
 refine (Ei.toS2 B e.insts _ wA HL.out.insts (HA.out.below KBs.out).insts).mono ?_
 rintro z w2 ⟨u2,rfl,hu,ho,hb⟩
 obtain ⟨x2,y2,rfl⟩:=hu.slice
 have KB2:=hid (KBs.out.trans (hb.mono KBs.out.size))
 have K02:=hid ((hb.block _ (blk_lt K0s.out)).trans K0s.out)
 have K12:=hid ((hb.block _ (blk_lt K1s.out)).trans K1s.out)
 have K22:=hid ((hb.block _ (blk_lt K2s.out)).trans K2s.out)
 have HU1:=hid (HUs.out.below hb)
 have HO1:=hid (HOs.out.below hb)
 have z12:w1.heap.size≤w2.heap.size:=by have:=hb.size;have:=HSZ.out;omega
 have HU2:=hid (hu.mono (show w.heap.size+1+1+1≤wA.heap.size by omega))
 have HO2:=hid (ho.mono (show w1.heap.size≤wA.heap.size by have:=HSZ.out;omega) (Nat.le_refl _))
 have c1:w2.cell? ⟨w.heap.size+1+1,1,none⟩=some (.slice none 0 0):=by rw [blk_cell K22.out];rfl
 have c0:w2.cell? ⟨w.heap.size+1+1,0,none⟩=some (.slice x1 e.procs.length y1):=by rw [blk_cell K22.out];rfl
 have c2:w2.cell? ⟨w.heap.size+1+1,2,none⟩=some (.int .i64 0):=by rw [blk_cell K22.out];rfl
 have d0:w2.cell? ⟨w.heap.size+1,0,none⟩=some (.slice none 0 0):=by rw [blk_cell K12.out];rfl
 have d1:w2.cell? ⟨w.heap.size+1,1,none⟩=some (.slice none 0 0):=by rw [blk_cell K12.out];rfl
 have d2:w2.cell? ⟨w.heap.size+1,2,none⟩=some (.int .i64 0):=by rw [blk_cell K12.out];rfl
 have n0:w2.cell? ⟨w.heap.size,2,none⟩=some (.int .i64 e.now):=by rw [blk_cell K02.out];rfl
 have f1:=blk_free K22.out 1
 have f2:=blk_free K22.out 2
 have i0:=blk_free K12.out 0
 have i1:=blk_free K12.out 1
 have i2:=blk_free K12.out 2
 have m0:=blk_lt K02.out
 have m1:=blk_lt K12.out
 have m2:=blk_lt K22.out
 clear hu ho hb KBs K0s K1s K2s HUs HOs HSZ e1 E1 K02 K12 K22
 go_wp2
 refine bodyPost_ret (v:=.agg #[.slice x1 e.procs.length y1,.slice x2 e.insts.length y2,.int .i64 e.now]) (by simp [results,Tryz.results28,go_sem,d0,d1,d2]) rfl ⟨_,_,rfl,⟨?_,?_⟩,⟨⟨w1.heap.size,by omega,by simpa [World.setCell] using z12,?_,?_⟩⟩,?_⟩
 ·exact (HU1.out.kept (by simp [World.setCell]) (fun g hg _=>by repeat rw [Below.heap_setCell _ _ _ _ (by dsimp only;omega)])).mono (by omega)
 ·exact (HU2.out.kept (by simp [World.setCell]) (fun g hg _=>by repeat rw [Below.heap_setCell _ _ _ _ (by dsimp only;omega)])).mono (by omega)
 ·exact (HO1.out.kept (fun g hg _ _=>by repeat rw [Below.heap_setCell _ _ _ _ (by dsimp only;omega)])).mono (by omega) (Nat.le_refl _)
 ·exact (HO2.out.kept (fun g hg _ _=>by repeat rw [Below.heap_setCell _ _ _ _ (by dsimp only;omega)])).mono (Nat.le_refl _) (by simp [World.setCell])
 ·exact setB (setB (setB (setB (setB KB2.out (by omega) _) (by omega) _) (by omega) _) (by omega) _) (by omega) _
set_option maxRecDepth 100000 in
set_option maxHeartbeats 2000000 in
theorem eq (B1 B2:Nat) (e:EngD) (vp vi up ui:Value) (w:World) (hl:Small 1048576 e) (h1:At w B1 vp vi e) (h2:At w B2 up ui e):
    Calls Tryz.prog 31 #[.agg #[vp,vi,.int .i64 e.now],.agg #[up,ui,.int .i64 e.now]] w fun z w'=>z=.returned (.bool true)∧Below w.heap.size w w':=by
 obtain ⟨a1,k1,rfl⟩:=h1.procs.slice
 obtain ⟨a2,k2,rfl⟩:=h1.insts.slice
 obtain ⟨b1,l1,rfl⟩:=h2.procs.slice
 obtain ⟨b2,l2,rfl⟩:=h2.insts.slice
 have hB:Below w.heap.size w ((w.alloc (.cells #[.slice a1 e.procs.length k1,.slice a2 e.insts.length k2,.int .i64 e.now] 27)).alloc (.cells #[.slice b1 e.procs.length l1,.slice b2 e.insts.length l2,.int .i64 e.now] 27)):=((Below.refl _ w).alloc (Nat.le_refl _) _).alloc (by simp) _
 have K0:((w.alloc (.cells #[.slice a1 e.procs.length k1,.slice a2 e.insts.length k2,.int .i64 e.now] 27)).alloc (.cells #[.slice b1 e.procs.length l1,.slice b2 e.insts.length l2,.int .i64 e.now] 27)).heap[w.heap.size]?=some (.cells #[.slice a1 e.procs.length k1,.slice a2 e.insts.length k2,.int .i64 e.now] 27):=by rw [Below.heap_alloc _ _ _ (by simp),new_blk]
 have K1:((w.alloc (.cells #[.slice a1 e.procs.length k1,.slice a2 e.insts.length k2,.int .i64 e.now] 27)).alloc (.cells #[.slice b1 e.procs.length l1,.slice b2 e.insts.length l2,.int .i64 e.now] 27)).heap[w.heap.size+1]?=some (.cells #[.slice b1 e.procs.length l1,.slice b2 e.insts.length l2,.int .i64 e.now] 27):=new_at (by simp) _
 have H1:=hid (h1.below hB)
 have H2:=hid (h2.below hB)
 have HB:=hid hB
 have HL:=hid hl
 clear h1 h2 hB hl
 have g0:(e.now != e.now)=false:=by simp
 go_enter Tryz.func31,Tryz.ntmps31
 go_wp2_with fail
 generalize (w.alloc (.cells #[.slice a1 e.procs.length k1,.slice a2 e.insts.length k2,.int .i64 e.now] 27)).alloc (.cells #[.slice b1 e.procs.length l1,.slice b2 e.insts.length l2,.int .i64 e.now] 27)=w0 at *
 refine (Ep.eqS B1 B2 e.procs _ _ w0 HL.out.procs H1.out.procs H2.out.procs).mono ?_
 rintro z w1 ⟨rfl,hb1⟩
 have HB1:=hid (HB.out.trans (hb1.mono HB.out.size))
 have K0a:=hid ((hb1.block _ (blk_lt K0)).trans K0)
 have K1a:=hid ((hb1.block _ (blk_lt K1)).trans K1)
 have c0:w1.cell? ⟨w.heap.size,1,none⟩=some (.slice a2 e.insts.length k2):=by rw [blk_cell K0a.out];rfl
 have c1:w1.cell? ⟨w.heap.size+1,1,none⟩=some (.slice b2 e.insts.length l2):=by rw [blk_cell K1a.out];rfl
 have H1a:=hid (H1.out.below hb1)
 have H2a:=hid (H2.out.below hb1)
 have m0:=blk_lt K0a.out
 have m1:=blk_lt K1a.out
 clear hb1 K0 K1 HB H1 H2
 go_wp2_with fail
 refine (Ei.eqS B1 B2 e.insts _ _ w1 HL.out.insts H1a.out.insts H2a.out.insts).mono ?_
 rintro z w2 ⟨rfl,hb2⟩
 have HB2:=hid (HB1.out.trans (hb2.mono HB1.out.size))
 have K0b:=hid ((hb2.block _ (blk_lt K0a.out)).trans K0a.out)
 have K1b:=hid ((hb2.block _ (blk_lt K1a.out)).trans K1a.out)
 have d0:w2.cell? ⟨w.heap.size,2,none⟩=some (.int .i64 e.now):=by rw [blk_cell K0b.out];rfl
 have d1:w2.cell? ⟨w.heap.size+1,2,none⟩=some (.int .i64 e.now):=by rw [blk_cell K1b.out];rfl
 have n0:=blk_lt K0b.out
 have n1:=blk_lt K1b.out
 clear hb2 K0a K1a c0 c1 m0 m1 HB1 H1a H2a K0b K1b
 go_wp2
 go_ret
 exact ⟨rfl,HB2.out⟩
theorem cellsR:Tryz.prog.cellsOf 47=3:=by kernel_rfl
theorem cellsP:Tryz.prog.cellsOf 22=1:=by kernel_rfl
theorem cellsS:Tryz.prog.cellsOf 45=1:=by kernel_rfl
set_option maxRecDepth 100000 in
theorem open_all {H:Type} {enc:TypeId × Value→H} {w:World} {base:Nat} {spare:Nat→Bool} {held:Bool} {fuel:Nat} {cs:List Value} {x:DataW H × List MemPlace} (h:DataW.trod enc Tryz.prog w base spare held fuel 47 cs=some x):
    ∃(e:EngD) (vp vi:Value),cs=[vp,vi,.int .i64 e.now]∧At w 0 vp vi e∧Ok e:=by
 obtain ⟨xs,n,rfl,_,hlen,hxl,hf⟩:=DataW.trod_struct Tryz.underlying47 h
 have h0:=hf 0 _ rfl
 have h1:=hf 1 _ rfl
 have h2:=hf 2 _ rfl
 rw [cellsR] at hlen
 match cs,hlen with
 | [a,b,c],_=>
  match xs,hxl with
  | [x0,x1,x2],_=>
   simp [cellsP,cellsS,Ei.cellsI] at h0 h1 h2
   obtain ⟨ps,p1,p2,p3⟩:=Ep.open_all h0
   obtain ⟨is,i1,i2,i3⟩:=Ei.open_all h1
   obtain ⟨n2,e2⟩:=Nu.open_one h2
   cases e2
   exact ⟨⟨ps,is,n2⟩,a,b,rfl,⟨p1,i1⟩,⟨p2,p3,i2,i3⟩⟩
end En
end Go.Proofs.YtccklgopcjilcaaGreatDoor
/- Rows of claims in memory: the law's measure of them, its copies, its comparison; an argument that is one. -/
namespace Go.Proofs.YtccklgopcjilcaaGreatDoor
open Go.RowKit Go.Deep
set_option linter.unusedVariables false
namespace Cl
open Nd (lt_of_cell add_add make_row made_row cellsI64)
structure ClD where
 inst:Int
 step:Int
 user:Int
def At (w:World) (B:Nat) (v:Value) (xs:List ClD):Prop:=
 ∃a cap,v=.slice a xs.length cap∧xs.length≤cap∧cap≤maxLen∧(xs=[]∨∃g o,a=some ⟨g,o,none⟩∧B≤g∧g<w.heap.size∧∀i (h:i<xs.length),w.cell? ⟨g,o+i*3,none⟩=some (.int .i64 xs[i].inst)∧w.cell? ⟨g,o+i*3+1,none⟩=some (.int .i64 xs[i].step)∧w.cell? ⟨g,o+i*3+2,none⟩=some (.int .i64 xs[i].user))
theorem At.kept {w w':World} {B:Nat} {v:Value} {xs:List ClD} (h:At w B v xs) (hs:w.heap.size≤w'.heap.size) (hb:∀g,B≤g→g<w.heap.size→w'.heap[g]?=w.heap[g]?):At w' B v xs:=by
 obtain ⟨a,cap,rfl,hle,hmx,h⟩:=h
 refine ⟨a,cap,rfl,hle,hmx,?_⟩
 rcases h with h | ⟨g,o,rfl,hB,hg,hc⟩
 ·exact .inl h
 ·refine .inr ⟨g,o,rfl,hB,Nat.lt_of_lt_of_le hg hs,fun i hi=>?_⟩
  have e:∀off,w'.cell? ⟨g,off,none⟩=w.cell? ⟨g,off,none⟩:=fun off=>by simp only [World.cell?,hb g hB hg]
  simp only [e]
  exact hc i hi
theorem At.below {w w':World} {B:Nat} {v:Value} {xs:List ClD} (h:At w B v xs) (hb:Below w.heap.size w w'):At w' B v xs:=h.kept hb.size (fun g _ hg=>hb.block g hg)
theorem At.setBelow {w:World} {B:Nat} {v:Value} {xs:List ClD} (h:At w B v xs) {b o:Nat} (ha:b<B) (x:Value):At (w.setCell ⟨b,o,none⟩ x) B v xs:=
 h.kept (by simp [World.setCell]) (fun g hg _=>Below.heap_setCell _ _ _ _ (by dsimp only;omega))
theorem At.mono {w:World} {B B':Nat} {v:Value} {xs:List ClD} (h:At w B v xs) (hB:B'≤B):At w B' v xs:=by
 obtain ⟨a,cap,rfl,hle,hmx,h⟩:=h
 refine ⟨a,cap,rfl,hle,hmx,?_⟩
 rcases h with h | ⟨g,o,rfl,hb,hg,hc⟩
 ·exact .inl h
 ·exact .inr ⟨g,o,rfl,Nat.le_trans hB hb,hg,hc⟩
theorem At.slice {w:World} {B:Nat} {v:Value} {xs:List ClD} (h:At w B v xs):∃a cap,v=.slice a xs.length cap:=by
 obtain ⟨a,cap,rfl,_⟩:=h;exact ⟨a,cap,rfl⟩
theorem At.at {w:World} {B:Nat} {a:Option Addr} {n cap:Nat} {xs:List ClD} (h:At w B (.slice a n cap) xs) {i:Nat} (hi:i<xs.length):
    ∃g o,a=some ⟨g,o,none⟩∧g<w.heap.size∧w.cell? ⟨g,o+i*3,none⟩=some (.int .i64 xs[i].inst)∧w.cell? ⟨g,o+i*3+1,none⟩=some (.int .i64 xs[i].step)∧w.cell? ⟨g,o+i*3+2,none⟩=some (.int .i64 xs[i].user):=by
 obtain ⟨a',cap',e,_,_,h⟩:=h
 cases e
 rcases h with h | ⟨g,o,rfl,_,hg,hc⟩
 ·subst h;simp at hi
 ·exact ⟨g,o,rfl,hg,hc i hi⟩
theorem At.cap {w:World} {B:Nat} {a:Option Addr} {n cap:Nat} {xs:List ClD} (h:At w B (.slice a n cap) xs):xs.length≤cap∧cap≤maxLen:=by
 obtain ⟨a',cap',e,h1,h2,_⟩:=h;cases e;exact ⟨h1,h2⟩
theorem At.nil (w:World) (B:Nat):At w B (.slice none 0 0) []:=⟨_,_,rfl,Nat.le_refl _,Nat.zero_le _,.inl rfl⟩
theorem cellsOne:Tryz.prog.cellsOf 196=3:=by kernel_rfl
section
variable {H : Type} {enc : TypeId × Value → H} {w : World} {base : Nat} {spare : Nat → Bool} {held : Bool} {fuel : Nat}
set_option maxRecDepth 100000 in
theorem open_one {cs:List Value} {x:DataW H × List MemPlace} (h:DataW.trod enc Tryz.prog w base spare held fuel 196 cs=some x):∃e:ClD,cs=[.int .i64 e.inst,.int .i64 e.step,.int .i64 e.user]:=by
 obtain ⟨xs,n,rfl,_,hlen,hxl,hf⟩:=DataW.trod_struct Tryz.underlying196 h
 have h0:=hf 0 _ rfl
 have h1:=hf 1 _ rfl
 have h2:=hf 2 _ rfl
 rw [cellsOne] at hlen
 match cs,hlen with
 | [a,b,c],_=>
  match xs,hxl with
  | [x0,x1,x2],_=>
   simp [cellsI64] at h0 h1 h2
   obtain ⟨n0,e0,_,_⟩:=DataW.trod_int Tryz.underlying2 h0
   obtain ⟨n1,e1,_,_⟩:=DataW.trod_int Tryz.underlying2 h1
   obtain ⟨n2,e2,_,_⟩:=DataW.trod_int Tryz.underlying2 h2
   simp at e0 e1 e2
   subst e0 e1 e2
   exact ⟨⟨n0,n1,n2⟩,rfl⟩
set_option maxRecDepth 100000 in
theorem open_all {v:Value} {x:DataW H × List MemPlace} (h:DataW.trod enc Tryz.prog w base spare held fuel 48 [v]=some x):
    ∃es,At w 0 v es∧es.length≤maxLen:=by
 rcases open_slice Tryz.underlying48 h with ⟨hcs,_⟩ | ⟨a,len,cap,m,n,D,Pl,hcs,hb,hl,hcm,hm,_,hx⟩
 ·obtain rfl:v=.slice none 0 0:=by simpa using hcs
  exact ⟨[],⟨none,0,rfl,Nat.le_refl _,Nat.zero_le _,.inl rfl⟩,Nat.zero_le _⟩
 ·obtain rfl:v=.slice (some a) len cap:=by simpa using hcs
  have hlm:len≤m:=by rw [hm];split <;> omega
  rw [cellsOne] at hx
  have each:∀i,i<len→∃q:ClD,w.cell? (a.add (i*3))=some (.int .i64 q.inst)∧w.cell? (a.add (i*3+1))=some (.int .i64 q.step)∧w.cell? (a.add (i*3+2))=some (.int .i64 q.user):=fun i hi=>by
   obtain ⟨cs',c0,d0⟩:=hx i (by omega)
   obtain ⟨e,rfl⟩:=open_one d0
   obtain ⟨_,_,hc⟩:=World.cells?_some c0
   have k0:=hc 0 (by omega)
   have k1:=hc 1 (by omega)
   have k2:=hc 2 (by omega)
   rw [Nd.add_add] at k0 k1 k2
   exact ⟨e,k0,k1,k2⟩
  haveI:Inhabited ClD:=⟨⟨0,0,0⟩⟩
  obtain ⟨F,hF⟩:=choose_lt each
  refine ⟨(List.range len).map F,?_,by simp;omega⟩
  refine ⟨some a,cap,by simp,by simpa using hl,hcm,?_⟩
  rcases Nat.eq_zero_or_pos len with h0 | h0
  ·exact .inl (by simp [h0])
  ·right
   obtain ⟨b,off,spot⟩:=a
   have hspot:spot=none:=by simpa [Addr.add] using World.cell?_spot (hF 0 h0).1
   subst hspot
   refine ⟨b,off,rfl,Nat.zero_le _,lt_of_cell (hF 0 h0).1,fun i hi=>?_⟩
   have hi':i<len:=by simpa using hi
   have h2:=hF i hi'
   simp only [List.getElem_map,List.getElem_range]
   simp only [Go.WideShapes.add_plain,←Nat.add_assoc] at h2 ⊢
   exact h2
end
set_option maxRecDepth 100000 in
set_option maxHeartbeats 400000 in
theorem szS (xs:List ClD) (v:Value) (n:Int) (B:Nat) (w:World) (h0:0≤n) (hn:n≤1048576) (hl:xs.length≤maxLen) (ha:At w B v xs):
    Calls Tryz.prog 80 #[v,.int .i64 n] w fun e w'=>(∃r:Int,e=.returned (.int .i64 r)∧-1≤r∧r≤n∧(0≤r→(xs.length:Int)≤n))∧w'=w:=by
 obtain ⟨a,cap,rfl⟩:=ha.slice
 clear ha
 unfold maxLen at hl
 by_cases q1:n - (xs.length:Int)<0
 ·go_enter Tryz.func80,Tryz.ntmps80
  go_wp2
  go_ret
  exact ⟨⟨-1,rfl,by omega,by omega,by omega⟩,rfl⟩
 ·go_enter Tryz.func80,Tryz.ntmps80
  go_wp2
  go_ret
  exact ⟨⟨_,rfl,by omega,by omega,by omega⟩,rfl⟩
theorem infoOne:(Tryz.prog.info? 143).map (fun i=>(i.zero,i.size,i.bytes))=some (some (Value.agg #[.int .i64 0,.int .i64 0,.int .i64 0]),3,24):=by kernel_rfl
def Own (w:World) (B C:Nat) (v:Value) (m:Nat):Prop:=∃g f,v=.slice (some ⟨g,0,none⟩) m m∧B≤g∧g<C∧w.rowIs g 143 (m*3) f
theorem Own.kept {w w':World} {B C m:Nat} {v:Value} (h:Own w B C v m) (hb:∀g,B≤g→g<C→g<w.heap.size→w'.heap[g]?=w.heap[g]?):Own w' B C v m:=by
 obtain ⟨g,f,rfl,h1,h2,h3⟩:=h
 exact ⟨g,f,rfl,h1,h2,h3.of_block (hb g h1 h2 h3.lt)⟩
theorem Own.below {w w':World} {B C m:Nat} {v:Value} (h:Own w B C v m) (hb:Below w.heap.size w w'):Own w' B C v m:=h.kept (fun g _ _ hg=>hb.block g hg)
theorem Own.mono {w:World} {B B' C C' m:Nat} {v:Value} (h:Own w B C v m) (hB:B'≤B) (hC:C≤C'):Own w B' C' v m:=by
 obtain ⟨g,f,rfl,h1,h2,h3⟩:=h
 exact ⟨g,f,rfl,Nat.le_trans hB h1,Nat.lt_of_lt_of_le h2 hC,h3⟩
theorem row_at {w:World} {g:Nat} {t:TypeId} {f:Nat→Value} {xs:List ClD} (h:w.rowIs g t (xs.length*3) f)
    (hf:∀j (hj:j<xs.length),f (j*3)=.int .i64 xs[j].inst∧f (j*3+1)=.int .i64 xs[j].step∧f (j*3+2)=.int .i64 xs[j].user) (cap:Nat) (hc:xs.length≤cap) (hm:cap≤maxLen):At w g (.slice (some ⟨g,0,none⟩) xs.length cap) xs:=by
 refine ⟨_,_,rfl,hc,hm,.inr ⟨g,0,rfl,Nat.le_refl _,h.lt,fun i hi=>?_⟩⟩
 have h1:=hf i hi
 simp only [Nat.zero_add]
 obtain ⟨e0,e1,e2⟩:=h1
 rw [←e0,←e1,←e2]
 exact ⟨h.cell (by omega),h.cell (by omega),h.cell (by omega)⟩
theorem setOne {w:World} {g:Nat} {t:TypeId} {k:Nat} {f:Nat→Value} {xs:List ClD} (h:w.rowIs g t (xs.length*3) f)
    (hf:∀j (hj:j<xs.length),j<k→f (j*3)=.int .i64 xs[j].inst∧f (j*3+1)=.int .i64 xs[j].step∧f (j*3+2)=.int .i64 xs[j].user) (hk:k<xs.length):
    ∃f',(((w.setCell ⟨g,k*3,none⟩ (.int .i64 xs[k].inst)).setCell ⟨g,k*3+1,none⟩ (.int .i64 xs[k].step)).setCell ⟨g,k*3+2,none⟩ (.int .i64 xs[k].user)).rowIs g t (xs.length*3) f'∧∀j (hj:j<xs.length),j<k+1→f' (j*3)=.int .i64 xs[j].inst∧f' (j*3+1)=.int .i64 xs[j].step∧f' (j*3+2)=.int .i64 xs[j].user:=by
 refine ⟨_,(((h.set (k*3) _).set (k*3+1) _).set (k*3+2) _),fun j hj hjk=>?_⟩
 by_cases e:j=k
 ·subst e
  exact ⟨by simp,by simp,by simp⟩
 ·have h1:=hf j hj (by omega)
  have n00:¬j*3=k*3:=by omega
  have n01:¬j*3=k*3+1:=by omega
  have n02:¬j*3=k*3+2:=by omega
  have n10:¬j*3+1=k*3:=by omega
  have n11:¬j*3+1=k*3+1:=by omega
  have n12:¬j*3+1=k*3+2:=by omega
  have n20:¬j*3+2=k*3:=by omega
  have n21:¬j*3+2=k*3+1:=by omega
  have n22:¬j*3+2=k*3+2:=by omega
  simp only [n00,n01,n02,n10,n11,n12,n20,n21,n22,if_false]
  exact h1
set_option maxRecDepth 100000 in
set_option maxHeartbeats 400000 in
theorem toOne (x:ClD) (w:World):Calls Tryz.prog 131 #[.agg #[.int .i64 x.inst,.int .i64 x.step,.int .i64 x.user]] w fun e w'=>e=.returned (.agg #[.int .i64 x.inst,.int .i64 x.step,.int .i64 x.user])∧Below w.heap.size w w':=by
 go_enter Tryz.func131,Tryz.ntmps131
 go_wp2
 exact bodyPost_ret (v:=.agg #[.int .i64 x.inst,.int .i64 x.step,.int .i64 x.user]) (by simp [results,Tryz.results131,go_sem]) rfl ⟨rfl,(((Below.refl _ w).alloc (Nat.le_refl _) _).alloc (by simp) _).alloc (by simp;omega) _⟩
set_option maxRecDepth 100000 in
set_option maxHeartbeats 1000000 in
theorem toS2 (B:Nat) (xs:List ClD) (v:Value) (w:World) (hl:xs.length≤1048576) (ha:At w B v xs):
    Calls Tryz.prog 86 #[v] w fun e w'=>∃v',e=.returned v'∧At w' w.heap.size v' xs∧Own w' w.heap.size w'.heap.size v' xs.length∧Below w.heap.size w w':=by
 obtain ⟨a,cap,rfl⟩:=ha.slice
 have HA:Hid (At w B (.slice a xs.length cap) xs):=ha
 clear ha
 have hmk:=make_row (P:=Tryz.prog) Tryz.underlying28 infoOne xs.length (by omega) (by omega)
 go_enter Tryz.func86,Tryz.ntmps86
 go_wp2
 go_loopw [4] (fun i wr=>∃(k:Nat) (f:Nat→Value),i=.int .i64 k∧k≤xs.length∧Hid (wr.rowIs w.heap.size 143 (xs.length*3) f)∧Hid (∀j (hj:j<xs.length),j<k→f (j*3)=.int .i64 xs[j].inst∧f (j*3+1)=.int .i64 xs[j].step∧f (j*3+2)=.int .i64 xs[j].user)∧Below w.heap.size w wr) (fun i _=>xs.length - (intOf i).toNat)
 case atStart=>
  obtain ⟨f,hf⟩:=made_row w (Value.agg #[.int .i64 0,.int .i64 0,.int .i64 0]).cells (xs.length*3) 143
  exact ⟨0,f,rfl,Nat.zero_le _,hf,fun j _ h=>by omega,(Below.refl _ _).alloc (Nat.le_refl _) _⟩
 case round=>
  obtain ⟨k,f,rfl,hkl,HR,HF,hbel⟩:=hrel
  by_cases hlt:k<xs.length
  ·obtain ⟨g,o,rfl,hg,c0,c1,c2⟩:=(HA.out.below hbel).at hlt
   have q1:(k:Int)<(xs.length:Int):=by omega
   go_wp2_with fail
   refine (toOne xs[k] _).mono ?_
   rintro e w1 ⟨rfl,hb1⟩
   have hR1:w1.rowIs w.heap.size 143 (xs.length*3) f:=HR.out.of_block (hb1.block _ HR.out.lt)
   have d0:=hR1.cell (i:=k*3) (by omega)
   have f0:=hR1.frozen (k*3)
   have d1:=hR1.cell (i:=k*3+1) (by omega)
   have f1:=hR1.frozen (k*3+1)
   have d2:=hR1.cell (i:=k*3+2) (by omega)
   have f2:=hR1.frozen (k*3+2)
   obtain ⟨f',hR2,hF2⟩:=setOne (k:=k) hR1 HF.out hlt
   have HR2:Hid _:=hR2
   have HF2:Hid _:=hF2
   have hB:Below w.heap.size w w1:=hbel.trans (hb1.mono hbel.size)
   clear hR1 hR2 hF2
   go_wp2
   exact ⟨⟨k+1,f',by simp,by omega,HR2,HF2,(((hB.setCell (by simp) _).setCell (by simp) _).setCell (by simp) _)⟩,by simp [intOf];omega⟩
  ·have HX:Hid (At wr w.heap.size (.slice (some ⟨w.heap.size,0,none⟩) xs.length xs.length) xs):=row_at HR.out (fun j hj=>HF.out j hj (by omega)) _ (Nat.le_refl _) (by unfold maxLen;omega)
   go_wp2
   go_ret
   exact ⟨_,rfl,HX.out,⟨w.heap.size,f,rfl,Nat.le_refl _,HR.out.lt,HR.out⟩,hbel⟩
set_option maxRecDepth 100000 in
set_option maxHeartbeats 400000 in
theorem eqOne (x:ClD) (w:World):Calls Tryz.prog 138 #[.agg #[.int .i64 x.inst,.int .i64 x.step,.int .i64 x.user],.agg #[.int .i64 x.inst,.int .i64 x.step,.int .i64 x.user]] w fun e w'=>e=.returned (.bool true)∧Below w.heap.size w w':=by
 have h0:(x.inst != x.inst)=false:=by simp
 have h1:(x.step != x.step)=false:=by simp
 have h2:(x.user != x.user)=false:=by simp
 go_enter Tryz.func138,Tryz.ntmps138
 go_wp2
 go_ret
 exact ⟨rfl,((Below.refl _ w).alloc (Nat.le_refl _) _).alloc (by simp) _⟩
set_option maxRecDepth 100000 in
set_option maxHeartbeats 2000000 in
theorem eqS (B1 B2:Nat) (xs:List ClD) (v1 v2:Value) (w:World) (hl:xs.length≤1048576) (h1:At w B1 v1 xs) (h2:At w B2 v2 xs):
    Calls Tryz.prog 90 #[v1,v2] w fun e w'=>e=.returned (.bool true)∧Below w.heap.size w w':=by
 obtain ⟨a1,c1,rfl⟩:=h1.slice
 obtain ⟨a2,c2,rfl⟩:=h2.slice
 have H1:Hid (At w B1 (.slice a1 xs.length c1) xs):=h1
 have H2:Hid (At w B2 (.slice a2 xs.length c2) xs):=h2
 clear h1 h2
 have hb:((xs.length:Int) != (xs.length:Int))=false:=by simp
 go_enter Tryz.func90,Tryz.ntmps90
 go_wp2
 go_loopw [5] (fun i wr=>∃k:Nat,i=.int .i64 k∧k≤xs.length∧Below w.heap.size w wr) (fun i _=>xs.length - (intOf i).toNat)
 case atStart=>exact ⟨0,rfl,Nat.zero_le _,Below.refl _ _⟩
 case round=>
  obtain ⟨k,rfl,hk,hbel⟩:=hrel
  by_cases hlt:k<xs.length
  ·obtain ⟨g1,o1,rfl,hg1,p0,p1,p2⟩:=(H1.out.below hbel).at hlt
   obtain ⟨g2,o2,rfl,hg2,u0,u1,u2⟩:=(H2.out.below hbel).at hlt
   have r1:(k:Int)<(xs.length:Int):=by omega
   have HE:Hid (∀w:World,Calls Tryz.prog 138 #[.agg #[.int .i64 xs[k].inst,.int .i64 xs[k].step,.int .i64 xs[k].user],.agg #[.int .i64 xs[k].inst,.int .i64 xs[k].step,.int .i64 xs[k].user]] w fun e w'=>e=.returned (.bool true)∧Below w.heap.size w w'):=fun w=>eqOne xs[k] w
   go_wp2
   go_region_with ((go_at_call 138;refine (HE.out _).mono ?_;rintro e w1 ⟨rfl,hb1⟩;have hbb:Below wr.heap.size wr w1:=((Below.refl wr.heap.size wr).drew).trans hb1))
   all_goals go_wp2
   all_goals exact ⟨⟨k+1,by simp,by omega,hbel.trans (hbb.mono hbel.size)⟩,by simp [intOf];omega⟩
  ·go_wp2
   go_ret
   exact ⟨rfl,hbel⟩
end Cl
end Go.Proofs.YtccklgopcjilcaaGreatDoor
