/- Laid together: EoC, EoD. -/
import Derived.Test.YtccklgopcjilcaaGreatDoorJCT40
import Derived.Test.YtccklgopcjilcaaGreatDoorJCT11
import Derived.Deep.RegionLaw
import Derived.Test.YtccklgopcjilcaaGreatDoorJCT37
/- A process with memory of its own: ownProc of the program. -/
namespace Go.Proofs.YtccklgopcjilcaaGreatDoor
open Go.RowKit Go.Deep
set_option linter.unusedVariables false
namespace Eo
open Ex (hid)
open Nst (own flat)
open Go.Proofs.YtccklgopcjilcaaGreatDoor.So (SOwn SAt)
open St (StepD)
set_option maxRecDepth 100000 in
set_option maxHeartbeats 16000000 in
theorem implOwnProc (ss:List StepD) (v:Value) (w:World) (hsm:St.Small 1048576 ss) (ha:St.At w 0 v ss):
    Calls Tryz.prog 134 #[.agg #[v]] w fun e w'=>(∃u,e=.returned (.agg #[u])∧SOwn w' w.heap.size u ss)∧Below w.heap.size w w':=by
 obtain ⟨a,cap,rfl⟩:=ha.slice
 have hlen:=hsm.1
 obtain ⟨j6,hj6,hy60,hy61,hy62⟩:=info_parts So.infoStep
 obtain ⟨w0,e0⟩:∃w0,w0=((w.alloc (.cells #[.slice a ss.length cap] 89)).alloc (.cells #[.slice none 0 0] 89)).alloc (.cells #[.slice none 0 0] 89):=⟨_,rfl⟩
 have hb0:Below w.heap.size w w0:=by rw [e0];exact (((Below.refl _ w).alloc (Nat.le_refl _) _).alloc (by simp) _).alloc (by simp;omega) _
 have K2:Hid (w0.heap[w.heap.size+2]?=some (.cells #[.slice none 0 0] 89)):=hid (by rw [e0];exact Ch.new_at (by simp) _)
 have K1:Hid (w0.heap[w.heap.size+1]?=some (.cells #[.slice none 0 0] 89)):=hid (by rw [e0,Below.heap_alloc _ _ _ (by simp)];exact Ch.new_at (by simp) _)
 have K0:Hid (w0.heap[w.heap.size]?=some (.cells #[.slice a ss.length cap] 89)):=hid (by rw [e0,Below.heap_alloc _ _ _ (by simp;omega),Below.heap_alloc _ _ _ (by simp),Ch.new_blk])
 have Z0:Hid (w0.heap.size=w.heap.size+3):=hid (by rw [e0];simp)
 have HA:=hid ha
 have HS0:=hid hsm
 have HB0:=hid hb0
 clear ha hsm hb0
 go_enter Tryz.func134,Tryz.ntmps134
 go_wp2_with fail
 rw [←e0]
 clear e0
 go_loopw [9,5] (fun i _ wr=>∃(k:Nat),i=.int .i64 k∧k≤ss.length∧Hid (∃u,wr.heap[w.heap.size+2]?=some (.cells #[u] 89)∧SOwn wr (w.heap.size+3) u (ss.take k))∧Hid (wr.heap[w.heap.size+1]?=some (.cells #[.slice none 0 0] 89))∧Hid (Below w.heap.size w wr)∧w.heap.size+3≤wr.heap.size) (fun i _ _=>ss.length - (intOf i).toNat)
 case atStart=>exact ⟨0,rfl,Nat.zero_le _,hid ⟨_,K2.out,SOwn.nil _ _⟩,K1,HB0,Nat.le_of_eq Z0.out.symm⟩
 case round=>
  obtain ⟨k,rfl,hkl,HU,HQ,HB,lw3⟩:=hrel
  have lw:=HB.out.size
  by_cases hlt:k<ss.length
  ·have q1:(k:Int)<(ss.length:Int):=by omega
   obtain ⟨g,o,vc,ve,rfl,hg,c0,c1,c2,c3,c4,c5,hvc,hve⟩:=(HA.out.below HB.out).at hlt
   obtain ⟨ac,cc,rfl⟩:=hvc.slice
   obtain ⟨ae,ce,rfl⟩:=hve.slice
   have hs1:=HS0.out.at hlt
   have HTS:=hid (Cw.take_step hlt)
   obtain ⟨u,hk2,C,E,hF⟩:=HU.out
   have hF2:=hF.row
   obtain ⟨a7,c7,hu7⟩:=Nst.own_slice hF2
   subst hu7
   have hn24:(ss.take k).length≤1048576:=by simp;omega
   generalize ss[k]=x at *
   generalize hL:ss.take k=L at *
   clear hL HU hF2
   obtain ⟨w2,e2⟩:∃w2,w2=wr.alloc (.cells #[.int .i64 x.kind,.int .i64 x.parent,.string x.name,.int .i64 x.arg,.slice ac x.cond.length cc,.slice ae x.expr.length ce] 164):=⟨_,rfl⟩
   have hb2:Below wr.heap.size wr w2:=by rw [e2];exact (Below.refl _ wr).alloc (Nat.le_refl _) _
   have HSd:Hid (w2.drew.heap[w.heap.size+2]?=some (.cells #[.slice a7 L.length c7] 89)∧w2.drew.heap[wr.heap.size]?=some (.cells #[.int .i64 x.kind,.int .i64 x.parent,.string x.name,.int .i64 x.arg,.slice ac x.cond.length cc,.slice ae x.expr.length ce] 164)):=hid ⟨by show w2.heap[w.heap.size+2]?=_;rw [e2,Below.heap_alloc _ _ _ (by omega)];exact hk2,by show w2.heap[wr.heap.size]?=_;rw [e2];exact Ch.new_blk _ _⟩
   have hbd:Below wr.heap.size wr w2.drew:=hb2.drew
   have zz:w2.drew.heap.size=wr.heap.size+1:=by show w2.heap.size=_;rw [e2];simp
   have HC:=hid (fun wy (hb:Below wr.heap.size wr wy)=>Cw.ownStep x x.parent x.parent _ _ wy (by have:=hs1.1;omega) (by have:=hs1.2.1;omega) (by have:=hs1.2.2;omega) ((hvc.mono (Nat.zero_le _)).below hb) ((hve.mono (Nat.zero_le _)).below hb))
   have HEF:=hid hF
   clear hF hvc hve hs1 hk2 hb2
   go_wp2
   rw [←e2]
   clear e2 c0 c1 c2 c3 c4 c5
   have s0:=Ch.blk_cell HSd.out.2 0
   have s1:=Ch.blk_cell HSd.out.2 1
   have s2:=Ch.blk_cell HSd.out.2 2
   have s3:=Ch.blk_cell HSd.out.2 3
   have s4:=Ch.blk_cell HSd.out.2 4
   have s5:=Ch.blk_cell HSd.out.2 5
   have r2:=Ch.blk_cell HSd.out.1 0
   have y2:w.heap.size+2<w2.heap.size:=by have:w2.heap.size=wr.heap.size+1:=zz;omega
   have y1:wr.heap.size<w2.heap.size:=by have:w2.heap.size=wr.heap.size+1:=zz;omega
   go_region_law (first | (go_simp;go_at_call 171;refine (HC.out _ hbd).mono ?_;rintro z w3 ⟨⟨uc,ue,rfl,huc,hue,hce⟩,hb3o⟩;have hb3:=hbd.trans (hb3o.mono hbd.size);have HS3:Hid (w3.heap[w.heap.size+2]?=some (.cells #[.slice a7 L.length c7] 89)∧w3.heap[wr.heap.size]?=some (.cells #[.int .i64 x.kind,.int .i64 x.parent,.string x.name,.int .i64 x.arg,.slice ac x.cond.length cc,.slice ae x.expr.length ce] 164)):=hid ⟨(hb3o.block _ (by rw [zz];omega)).trans HSd.out.1,(hb3o.block _ (by rw [zz];omega)).trans HSd.out.2⟩;obtain ⟨q1,q2,hue1⟩:=Nst.own_slice hue;obtain ⟨q3,q4,huc1⟩:=Nst.own_slice huc;subst hue1 huc1;have HB3:=hid hb3;have HUC:=hid (Nst.own_mono huc (show wr.heap.size≤w2.drew.heap.size from hbd.size));have HUE:=hid (Nst.own_mono hue (show wr.heap.size≤w2.drew.heap.size from hbd.size));have HCE:=hid hce;have l3:=hb3o.size;rw [zz] at l3;have r3:w3.cell? ⟨w.heap.size+2,0,none⟩=some (.slice a7 L.length c7):=Ch.blk_cell HS3.out.1 0;have y3:w.heap.size+2<w3.heap.size:=(by omega)) | (have HS4:Hid ((w3.alloc (.cells #[.int .i64 x.kind,.int .i64 x.parent,.string x.name,.int .i64 x.arg,.slice q3 x.cond.length q4,.slice q1 x.expr.length q2] 164)).heap[w.heap.size+2]?=some (.cells #[.slice a7 L.length c7] 89)∧(w3.alloc (.cells #[.int .i64 x.kind,.int .i64 x.parent,.string x.name,.int .i64 x.arg,.slice q3 x.cond.length q4,.slice q1 x.expr.length q2] 164)).heap[wr.heap.size]?=some (.cells #[.int .i64 x.kind,.int .i64 x.parent,.string x.name,.int .i64 x.arg,.slice ac x.cond.length cc,.slice ae x.expr.length ce] 164)):=hid ⟨(Below.heap_alloc _ _ _ (by omega)).trans HS3.out.1,(Below.heap_alloc _ _ _ (by omega)).trans HS3.out.2⟩;have hb4:Below wr.heap.size wr (w3.alloc (.cells #[.int .i64 x.kind,.int .i64 x.parent,.string x.name,.int .i64 x.arg,.slice q3 x.cond.length q4,.slice q1 x.expr.length q2] 164)):=HB3.out.alloc (by omega) _;have hrow:Ap.Row (w3.alloc (.cells #[.int .i64 x.kind,.int .i64 x.parent,.string x.name,.int .i64 x.arg,.slice q3 x.cond.length q4,.slice q1 x.expr.length q2] 164)) 6 (.slice (some ⟨w3.heap.size,0,none⟩) 1 1) 1 [.int .i64 x.kind,.int .i64 x.parent,.string x.name,.int .i64 x.arg,.slice q3 x.cond.length q4,.slice q1 x.expr.length q2]:=⟨_,_,rfl,rfl,(by simp [Value.oneCell']),.inr ⟨_,rfl,So.news #[.int .i64 x.kind,.int .i64 x.parent,.string x.name,.int .i64 x.arg,.slice q3 x.cond.length q4,.slice q1 x.expr.length q2] _ _ rfl⟩⟩;have ho:=Nst.own_kept HEF.out.row (fun b hb=>hb4.block b (Nst.own_lt HEF.out.row hb).2);refine Ap.step_any _ (by rfl) _ _ 87 (by rfl) (w.heap.size+3) 164 j6 (.agg #[.int .i64 0,.int .i64 0,.string { data:=#[] },.int .i64 0,.slice none 0 0,.slice none 0 0]) 6 88 Tryz.underlying87 hj6 hy60 hy61 hy62 rfl (by decide) (.slice a7 L.length c7) L.length _ (by rfl) ho (.slice (some ⟨w3.heap.size,0,none⟩) 1 1) 1 [.int .i64 x.kind,.int .i64 x.parent,.string x.name,.int .i64 x.arg,.slice q3 x.cond.length q4,.slice q1 x.expr.length q2] (by rfl) hrow (by unfold maxLen;omega) (by omega) (by simp;omega) (w3.heap.size+1) (by simp) ?_;intro a9 c9 w9 hown9 hg9 hat9;have l9:=hg9.size;rw [World.size_alloc] at l9;have hov:∀b,own (.slice a7 L.length c7) b→w.heap.size+3≤b∧b<wr.heap.size:=fun b hb=>Nst.own_lt HEF.out.row hb;have HS9:Hid (w9.heap[w.heap.size+2]?=some (.cells #[.slice a7 L.length c7] 89)∧w9.heap[wr.heap.size]?=some (.cells #[.int .i64 x.kind,.int .i64 x.parent,.string x.name,.int .i64 x.arg,.slice ac x.cond.length cc,.slice ae x.expr.length ce] 164)):=hid ⟨(hg9.block _ (by simp;omega) (fun e=>by have:=(hov _ e.symm).1;omega)).trans HS4.out.1,(hg9.block _ (by simp;omega) (fun e=>by have:=(hov _ e.symm).2;omega)).trans HS4.out.2⟩;have HO9:Hid (SOwn w9 (w.heap.size+3) (.slice a9 (L.length+1) c9) (L++[x])):=hid (So.push_at HEF.out (by omega) (fun b _ hb=>hb4.block b hb) (by simp;omega) (HUC.out.alloc _) (HUE.out.alloc _) HCE.out hown9 hg9 (by rw [World.size_alloc];exact hat9));have HB9:Hid (Below w.heap.size w w9):=hid ((HB.out.trans (hb4.mono lw)).grown hg9 (by simp;omega) (fun b e=>by have:=(hov b e).1;omega));have HQ9:Hid (w9.heap[w.heap.size+1]?=some (.cells #[.slice none 0 0] 89)):=hid ((hg9.block _ (by simp;omega) (fun e=>by have:=(hov _ e.symm).1;omega)).trans ((Below.heap_alloc _ _ _ (by omega)).trans ((HB3.out.block _ (by omega)).trans HQ.out)));have zR:=Ch.blk_lt HS9.out.1;have k9:w9.cell? ⟨w.heap.size+2,0,none⟩=some (.slice a7 L.length c7):=Ch.blk_cell HS9.out.1 0;have fk9:=Ch.blk_free HS9.out.1 0;clear ho hrow hb4 hown9 hg9 hat9 hov r3 y3 HS4))
   all_goals have HU10:Hid (∃u,(w9.setCell ⟨w.heap.size+1+1,0,none⟩ (.slice a9 (L.length+1) c9)).heap[w.heap.size+2]?=some (.cells #[u] 89)∧SOwn (w9.setCell ⟨w.heap.size+1+1,0,none⟩ (.slice a9 (L.length+1) c9)) (w.heap.size+3) u (ss.take (k+1))):=hid ⟨_,Ch.blk_set (i:=0) HS9.out.1 _,by rw [HTS.out];exact HO9.out.keep (fun b hb _=>Below.heap_setCell _ _ _ _ (by dsimp only;omega))⟩
   all_goals have HQ10:Hid ((w9.setCell ⟨w.heap.size+1+1,0,none⟩ (.slice a9 (L.length+1) c9)).heap[w.heap.size+1]?=some (.cells #[.slice none 0 0] 89)):=hid ((Below.heap_setCell _ _ _ _ (by dsimp only;omega)).trans HQ9.out)
   all_goals have HB10:Hid (Below w.heap.size w (w9.setCell ⟨w.heap.size+1+1,0,none⟩ (.slice a9 (L.length+1) c9))):=hid (HB9.out.setCell (p:=⟨w.heap.size+1+1,0,none⟩) (by dsimp only;omega) _)
   all_goals have l10:w.heap.size+3≤(w9.setCell ⟨w.heap.size+1+1,0,none⟩ (.slice a9 (L.length+1) c9)).heap.size:=by rw [Ch.size_set];omega
   all_goals clear k9 fk9 zR s0 s1 s2 s3 s4 s5 r2 y1 y2
   all_goals go_wp2
   all_goals exact ⟨⟨k+1,by simp,by omega,HU10,HQ10,HB10,l10⟩,by simp [intOf];omega⟩
  ·have HX:Hid (∃u,wr.heap[w.heap.size+2]?=some (.cells #[u] 89)∧SOwn wr (w.heap.size+3) u ss):=hid (by
    have:=HU.out
    rw [List.take_of_length_le (by omega)] at this
    exact this)
   obtain ⟨u,hk2,hso⟩:=HX.out
   obtain ⟨a7,c7,rfl⟩:=hso.slice
   have m0:wr.cell? ⟨w.heap.size+2,0,none⟩=some (.slice a7 ss.length c7):=Ch.blk_cell hk2 0
   have m1:wr.cell? ⟨w.heap.size+1,0,none⟩=some (.slice none 0 0):=Ch.blk_cell HQ.out 0
   have f1:=Ch.blk_free HQ.out 0
   have z1:w.heap.size+1<wr.heap.size:=by omega
   have HSO:=hid hso
   clear hso hk2 HU HX
   go_wp2
   refine bodyPost_ret (v:=.agg #[.slice a7 ss.length c7]) (by simp [results,Tryz.results134,go_sem,m1]) rfl ⟨⟨_,rfl,?_⟩,?_⟩
   ·exact (HSO.out.keep (fun b hb _=>Below.heap_setCell _ _ _ _ (by dsimp only;omega))).mono (by omega)
   ·exact HB.out.setCell (p:=⟨w.heap.size+1,0,none⟩) (by dsimp only;omega) _
end Eo
end Go.Proofs.YtccklgopcjilcaaGreatDoor
/- An engine with memory of its own: ownEngine of the program. -/
namespace Go.Proofs.YtccklgopcjilcaaGreatDoor
open Go.RowKit Go.Deep
set_option linter.unusedVariables false
namespace Eo
open Ex (hid)
open Nst (own flat own_lt own_kept)
open Go.Proofs.YtccklgopcjilcaaGreatDoor.So (SOwn)
open St (StepD)
open Ei (InstD)
open En (EngD)
theorem take_s {α:Type} {ss:List α} {j:Nat} (h:j<ss.length):ss.take (j+1)=ss.take j++[ss[j]]:=by rw [List.take_succ_eq_append_getElem h]
set_option maxRecDepth 100000 in
set_option maxHeartbeats 16000000 in
theorem implOwnEngine (e:EngD) (vp vi:Value) (w:World) (hs:En.Small 1048576 e) (ha:En.At w 0 vp vi e):
    Calls Tryz.prog 88 #[.agg #[vp,vi,.int .i64 e.now]] w fun z w'=>(∃up ui,z=.returned (.agg #[up,ui,.int .i64 e.now])∧EOwn w' w.heap.size up ui e)∧Below w.heap.size w w':=by
 obtain ⟨a1,k1,rfl⟩:=ha.procs.slice
 obtain ⟨a2,k2,rfl⟩:=ha.insts.slice
 have hlp:=hs.procs.1
 have hli:=hs.insts.1
 obtain ⟨jp,hjp,hp0,hp1,hp2⟩:=info_parts Ep.infoR
 obtain ⟨ji,hji,hi0,hi1,hi2⟩:=info_parts Ei.infoR
 obtain ⟨w0,e0⟩:∃w0,w0=((w.alloc (.cells #[.slice a1 e.procs.length k1,.slice a2 e.insts.length k2,.int .i64 e.now] 27)).alloc (.cells #[.slice none 0 0,.slice none 0 0,.int .i64 0] 27)).alloc (.cells #[.slice none 0 0,.slice none 0 0,.int .i64 e.now] 27):=⟨_,rfl⟩
 have hb0:Below w.heap.size w w0:=by rw [e0];exact (((Below.refl _ w).alloc (Nat.le_refl _) _).alloc (by simp) _).alloc (by simp;omega) _
 have K2:Hid (w0.heap[w.heap.size+2]?=some (.cells #[.slice none 0 0,.slice none 0 0,.int .i64 e.now] 27)):=hid (by rw [e0];exact Ch.new_at (by simp) _)
 have K1:Hid (w0.heap[w.heap.size+1]?=some (.cells #[.slice none 0 0,.slice none 0 0,.int .i64 0] 27)):=hid (by rw [e0,Below.heap_alloc _ _ _ (by simp)];exact Ch.new_at (by simp) _)
 have K0:Hid (w0.heap[w.heap.size]?=some (.cells #[.slice a1 e.procs.length k1,.slice a2 e.insts.length k2,.int .i64 e.now] 27)):=hid (by rw [e0,Below.heap_alloc _ _ _ (by simp;omega),Below.heap_alloc _ _ _ (by simp),Ch.new_blk])
 have Z0:Hid (w0.heap.size=w.heap.size+3):=hid (by rw [e0];simp)
 have HA:=hid ha
 have HS0:=hid hs
 have HB0:=hid hb0
 clear ha hs hb0
 go_enter Tryz.func88,Tryz.ntmps88
 go_wp2_with fail
 rw [←e0]
 clear e0
 go_loopw [14,5] (fun i _ wr=>∃(k:Nat),i=.int .i64 k∧k≤e.procs.length∧Hid (∃u,wr.heap[w.heap.size+2]?=some (.cells #[u,.slice none 0 0,.int .i64 e.now] 27)∧POwn wr (w.heap.size+3) u (e.procs.take k))∧Hid (wr.heap[w.heap.size+1]?=some (.cells #[.slice none 0 0,.slice none 0 0,.int .i64 0] 27))∧Hid (wr.heap[w.heap.size]?=some (.cells #[.slice a1 e.procs.length k1,.slice a2 e.insts.length k2,.int .i64 e.now] 27))∧Hid (Below w.heap.size w wr)∧w.heap.size+3≤wr.heap.size) (fun i _ _=>e.procs.length - (intOf i).toNat)
 case atStart=>exact ⟨0,rfl,Nat.zero_le _,hid ⟨_,K2.out,_,_,_,_,_,PRow.nil _ _⟩,K1,K0,HB0,Nat.le_of_eq Z0.out.symm⟩
 case round=>
  obtain ⟨k,rfl,hkl,HU,HQ,HP,HB,lw3⟩:=hrel
  have lw:=HB.out.size
  by_cases hlt:k<e.procs.length
  ·have q1:(k:Int)<(e.procs.length:Int):=by omega
   obtain ⟨g,o,x1,rfl,hg,c0,hst⟩:=(HA.out.below HB.out).procs.at hlt
   obtain ⟨s1,s2,rfl⟩:=hst.slice
   have hsm:=HS0.out.procs.at hlt
   have HTS:=hid (take_s hlt)
   obtain ⟨u,hk2,pv,C,E,lo,hi,hF⟩:=HU.out
   have hF2:=hF.row
   obtain ⟨a7,c7,hu7⟩:=Nst.own_slice hF2
   subst hu7
   have hn24:(e.procs.take k).length≤1048576:=by simp;omega
   generalize e.procs[k]=x at *
   generalize hL:e.procs.take k=L at *
   clear hL HU hF2
   obtain ⟨w2,e2⟩:∃w2,w2=wr.alloc (.cells #[.slice s1 x.length s2] 89):=⟨_,rfl⟩
   have hb2:Below wr.heap.size wr w2:=by rw [e2];exact (Below.refl _ wr).alloc (Nat.le_refl _) _
   have HSd:Hid (w2.drew.heap[w.heap.size+2]?=some (.cells #[.slice a7 L.length c7,.slice none 0 0,.int .i64 e.now] 27)∧w2.drew.heap[wr.heap.size]?=some (.cells #[.slice s1 x.length s2] 89)):=hid ⟨by show w2.heap[w.heap.size+2]?=_;rw [e2,Below.heap_alloc _ _ _ (by omega)];exact hk2,by show w2.heap[wr.heap.size]?=_;rw [e2];exact Ch.new_blk _ _⟩
   have hbd:Below wr.heap.size wr w2.drew:=hb2.drew
   have zz:w2.drew.heap.size=wr.heap.size+1:=by show w2.heap.size=_;rw [e2];simp
   have HC:=hid (fun wy (hb:Below wr.heap.size wr wy)=>implOwnProc x _ wy hsm (hst.below hb))
   have HEF:=hid hF
   clear hF hst hk2 hb2
   go_wp2
   rw [←e2]
   clear e2 c0
   have s0:=Ch.blk_cell HSd.out.2 0
   have r2:=Ch.blk_cell HSd.out.1 0
   have y2:w.heap.size+2<w2.heap.size:=by have:w2.heap.size=wr.heap.size+1:=zz;omega
   have y1:wr.heap.size<w2.heap.size:=by have:w2.heap.size=wr.heap.size+1:=zz;omega
   go_region_law (first | (go_simp;go_at_call 134;refine (HC.out _ hbd).mono ?_;rintro z w3 ⟨⟨un,rfl,hso⟩,hb3o⟩;have hb3:=hbd.trans (hb3o.mono hbd.size);have HS3:Hid (w3.heap[w.heap.size+2]?=some (.cells #[.slice a7 L.length c7,.slice none 0 0,.int .i64 e.now] 27)∧w3.heap[wr.heap.size]?=some (.cells #[.slice s1 x.length s2] 89)):=hid ⟨(hb3o.block _ (by rw [zz];omega)).trans HSd.out.1,(hb3o.block _ (by rw [zz];omega)).trans HSd.out.2⟩;obtain ⟨q1,q2,hq1⟩:=hso.slice;subst hq1;have HB3:=hid hb3;have HSO:=hid hso;have l3:=hb3o.size;rw [zz] at l3;have r3:w3.cell? ⟨w.heap.size+2,0,none⟩=some (.slice a7 L.length c7):=Ch.blk_cell HS3.out.1 0;have y3:w.heap.size+2<w3.heap.size:=(by omega)) | (have HS4:Hid ((w3.alloc (.cells #[.slice q1 x.length q2] 89)).heap[w.heap.size+2]?=some (.cells #[.slice a7 L.length c7,.slice none 0 0,.int .i64 e.now] 27)∧(w3.alloc (.cells #[.slice q1 x.length q2] 89)).heap[wr.heap.size]?=some (.cells #[.slice s1 x.length s2] 89)):=hid ⟨(Below.heap_alloc _ _ _ (by omega)).trans HS3.out.1,(Below.heap_alloc _ _ _ (by omega)).trans HS3.out.2⟩;have hb4:Below wr.heap.size wr (w3.alloc (.cells #[.slice q1 x.length q2] 89)):=HB3.out.alloc (by omega) _;have hrow:Ap.Row (w3.alloc (.cells #[.slice q1 x.length q2] 89)) 1 (.slice (some ⟨w3.heap.size,0,none⟩) 1 1) 1 [.slice q1 x.length q2]:=⟨_,_,rfl,rfl,(by simp [Value.oneCell']),.inr ⟨_,rfl,So.news #[.slice q1 x.length q2] _ _ rfl⟩⟩;have ho:=own_kept HEF.out.row (fun b hb=>hb4.block b (own_lt HEF.out.row hb).2);refine Ap.step_any _ (by rfl) _ _ 24 (by rfl) (w.heap.size+3) 89 jp (.agg #[.slice none 0 0]) 1 24 Tryz.underlying24 hjp hp0 hp1 hp2 rfl (by decide) (.slice a7 L.length c7) L.length _ (by rfl) ho (.slice (some ⟨w3.heap.size,0,none⟩) 1 1) 1 [.slice q1 x.length q2] (by rfl) hrow (by unfold maxLen;omega) (by omega) (by simp;omega) (w3.heap.size+1) (by simp) ?_;intro a9 c9 w9 hown9 hg9 hat9;have l9:=hg9.size;rw [World.size_alloc] at l9;have hov:∀b,own (.slice a7 L.length c7) b→w.heap.size+3≤b∧b<wr.heap.size:=fun b hb=>own_lt HEF.out.row hb;have HS9:Hid (w9.heap[w.heap.size+2]?=some (.cells #[.slice a7 L.length c7,.slice none 0 0,.int .i64 e.now] 27)∧w9.heap[wr.heap.size]?=some (.cells #[.slice s1 x.length s2] 89)):=hid ⟨(hg9.block _ (by simp;omega) (fun e=>by have:=(hov _ e.symm).1;omega)).trans HS4.out.1,(hg9.block _ (by simp;omega) (fun e=>by have:=(hov _ e.symm).2;omega)).trans HS4.out.2⟩;obtain ⟨ca,ce,hsat⟩:=(HSO.out.below ((Below.refl w3.heap.size w3).alloc (Nat.le_refl _) (.cells #[.slice q1 x.length q2] 89)));have HO9:Hid (POwn w9 (w.heap.size+3) (.slice a9 (L.length+1) c9) (L++[x])):=hid ⟨_,_,_,_,_,PRow.push HEF.out (by omega) hb4 hbd.size (PIn.of hsat) hown9 hg9 (by rcases hat9 with h | h;exact .inl h;exact .inr ⟨_,h,by simp⟩)⟩;have HB9:Hid (Below w.heap.size w w9):=hid ((HB.out.trans (hb4.mono lw)).grown hg9 (by simp;omega) (fun b e=>by have:=(hov b e).1;omega));have HQ9:Hid (w9.heap[w.heap.size+1]?=some (.cells #[.slice none 0 0,.slice none 0 0,.int .i64 0] 27)):=hid ((hg9.block _ (by simp;omega) (fun e=>by have:=(hov _ e.symm).1;omega)).trans ((Below.heap_alloc _ _ _ (by omega)).trans ((HB3.out.block _ (by omega)).trans HQ.out)));have HP9:Hid (w9.heap[w.heap.size]?=some (.cells #[.slice (some ⟨g,o,none⟩) e.procs.length k1,.slice a2 e.insts.length k2,.int .i64 e.now] 27)):=hid ((hg9.block _ (by simp;omega) (fun e=>by have:=(hov _ e.symm).1;omega)).trans ((Below.heap_alloc _ _ _ (by omega)).trans ((HB3.out.block _ (by omega)).trans HP.out)));have zR:=Ch.blk_lt HS9.out.1;have k9:w9.cell? ⟨w.heap.size+2,0,none⟩=some (.slice a7 L.length c7):=Ch.blk_cell HS9.out.1 0;have fk9:=Ch.blk_free HS9.out.1 0;clear ho hrow hb4 hown9 hg9 hat9 hov r3 y3 HS4 hsat))
   all_goals have HU10:Hid (∃u,(w9.setCell ⟨w.heap.size+1+1,0,none⟩ (.slice a9 (L.length+1) c9)).heap[w.heap.size+2]?=some (.cells #[u,.slice none 0 0,.int .i64 e.now] 27)∧POwn (w9.setCell ⟨w.heap.size+1+1,0,none⟩ (.slice a9 (L.length+1) c9)) (w.heap.size+3) u (e.procs.take (k+1))):=hid ⟨_,Ch.blk_set (i:=0) HS9.out.1 _,by
    obtain ⟨pv9,C9,E9,lo9,hi9,h9⟩:=HO9.out
    rw [HTS.out]
    exact ⟨pv9,C9,E9,lo9,hi9,h9.keep (Nat.le_of_eq Ch.size_set.symm) (fun b hb _=>Below.heap_setCell _ _ _ _ (by dsimp only;omega))⟩⟩
   all_goals have HQ10:Hid ((w9.setCell ⟨w.heap.size+1+1,0,none⟩ (.slice a9 (L.length+1) c9)).heap[w.heap.size+1]?=some (.cells #[.slice none 0 0,.slice none 0 0,.int .i64 0] 27)):=hid ((Below.heap_setCell _ _ _ _ (by dsimp only;omega)).trans HQ9.out)
   all_goals have HP10:Hid ((w9.setCell ⟨w.heap.size+1+1,0,none⟩ (.slice a9 (L.length+1) c9)).heap[w.heap.size]?=some (.cells #[.slice (some ⟨g,o,none⟩) e.procs.length k1,.slice a2 e.insts.length k2,.int .i64 e.now] 27)):=hid ((Below.heap_setCell _ _ _ _ (by dsimp only;omega)).trans HP9.out)
   all_goals have HB10:Hid (Below w.heap.size w (w9.setCell ⟨w.heap.size+1+1,0,none⟩ (.slice a9 (L.length+1) c9))):=hid (HB9.out.setCell (p:=⟨w.heap.size+1+1,0,none⟩) (by dsimp only;omega) _)
   all_goals have l10:w.heap.size+3≤(w9.setCell ⟨w.heap.size+1+1,0,none⟩ (.slice a9 (L.length+1) c9)).heap.size:=by rw [Ch.size_set];omega
   all_goals clear k9 fk9 zR s0 r2 y1 y2
   all_goals go_wp2
   all_goals exact ⟨⟨k+1,by simp,by omega,HU10,HQ10,HP10,HB10,l10⟩,by simp [intOf];omega⟩
  ·have HX:Hid (∃u,wr.heap[w.heap.size+2]?=some (.cells #[u,.slice none 0 0,.int .i64 e.now] 27)∧POwn wr (w.heap.size+3) u e.procs):=hid (by
    have:=HU.out
    rw [List.take_of_length_le (by omega)] at this
    exact this)
   obtain ⟨u,hk2,pv,C,E,lo,hi,hF⟩:=HX.out
   obtain ⟨a7,c7,hu7⟩:=Nst.own_slice hF.row
   subst hu7
   have HPR:=hid hF
   have HK2:=hid hk2
   obtain ⟨M,hM⟩:∃M,M=wr.heap.size:=⟨_,rfl⟩
   have m1:wr.cell? ⟨w.heap.size,1,none⟩=some (.slice a2 e.insts.length k2):=Ch.blk_cell HP.out 1
   have lP:=Ch.blk_lt HP.out
   have HKr:Hid (∀b,b<M→b≠w.heap.size+2→wr.heap[b]?=wr.heap[b]?):=hid (fun _ _ _=>rfl)
   have HB1:=HB
   clear hk2 HU HX hF
   go_wp2_with fail
   clear hlt hkl m1 lP
   generalize hw1:wr=w1 at *
   have HS1:Hid (M=w1.heap.size):=hid hM
   clear hw1
   go_loopw [29,6,7] (fun i _ _ wr=>∃(k:Nat),i=.int .i64 k∧k≤e.insts.length∧Hid (∃v,wr.heap[w.heap.size+2]?=some (.cells #[.slice a7 e.procs.length c7,v,.int .i64 e.now] 27)∧IOwn wr M v (e.insts.take k))∧Hid (∀b,b<M→b≠w.heap.size+2→wr.heap[b]?=w1.heap[b]?)∧Hid (Below w.heap.size w wr)∧M≤wr.heap.size) (fun i _ _ _=>e.insts.length - (intOf i).toNat)
   case atStart=>exact ⟨0,rfl,Nat.zero_le _,hid ⟨_,HK2.out,_,_,_,_,_,IRow.nil _ _⟩,by first | exact HKr | exact hid (fun _ _ _=>True.intro) | simp [Hid],HB1,Nat.le_of_eq hM⟩
   case round=>
    clear HB HKr lw
    obtain ⟨k,rfl,hkl,HU,HK,HB,lM⟩:=hrel
    have lw:=HB.out.size
    have HPk:Hid (wr.heap[w.heap.size]?=some (.cells #[.slice a1 e.procs.length k1,.slice a2 e.insts.length k2,.int .i64 e.now] 27)):=hid ((HK.out _ (by omega) (by omega)).trans HP.out)
    by_cases hlt:k<e.insts.length
    ·have t1:(k:Int)<(e.insts.length:Int):=by omega
     obtain ⟨g,o,x1,x2,x3,rfl,hg,c0,c1,c2,c3,c4,c5,hc⟩:=(HA.out.below HB.out).insts.at hlt
     obtain ⟨b1,l1,rfl⟩:=hc.vars.slice
     obtain ⟨b2,l2,rfl⟩:=hc.marks.slice
     obtain ⟨b3,l3,rfl⟩:=hc.dues.slice
     have hsm:=HS0.out.insts.at hlt
     have HTS:=hid (take_s hlt)
     have m1:wr.cell? ⟨w.heap.size,1,none⟩=some (.slice (some ⟨g,o,none⟩) e.insts.length k2):=Ch.blk_cell HPk.out 1
     have lP:=Ch.blk_lt HPk.out
     obtain ⟨v,hk2,u1,u2,u3,lo8,hi8,hF⟩:=HU.out
     have hF2:=hF.row
     obtain ⟨a8,c8,hu7⟩:=Nst.own_slice hF2
     subst hu7
     have hn24:(e.insts.take k).length≤1048576:=by simp;omega
     generalize e.insts[k]=x at *
     generalize hL:e.insts.take k=L at *
     clear hL HU hF2
     obtain ⟨w2,e2⟩:∃w2,w2=wr.alloc (.cells #[.int .i64 x.proc,.int .i64 x.chart.status,.int .i64 x.chart.now,.slice b1 x.chart.vars.length l1,.slice b2 x.chart.marks.length l2,.slice b3 x.chart.dues.length l3] 114):=⟨_,rfl⟩
     have hb2:Below wr.heap.size wr w2:=by rw [e2];exact (Below.refl _ wr).alloc (Nat.le_refl _) _
     have HSd:Hid (w2.drew.heap[w.heap.size+2]?=some (.cells #[.slice a7 e.procs.length c7,.slice a8 L.length c8,.int .i64 e.now] 27)∧w2.drew.heap[wr.heap.size]?=some (.cells #[.int .i64 x.proc,.int .i64 x.chart.status,.int .i64 x.chart.now,.slice b1 x.chart.vars.length l1,.slice b2 x.chart.marks.length l2,.slice b3 x.chart.dues.length l3] 114)):=hid ⟨by show w2.heap[w.heap.size+2]?=_;rw [e2,Below.heap_alloc _ _ _ (by omega)];exact hk2,by show w2.heap[wr.heap.size]?=_;rw [e2];exact Ch.new_blk _ _⟩
     have hbd:Below wr.heap.size wr w2.drew:=hb2.drew
     have zz:w2.drew.heap.size=wr.heap.size+1:=by show w2.heap.size=_;rw [e2];simp
     have HC:=hid (fun wy (hb:Below wr.heap.size wr wy)=>implOwnChart x.chart _ _ _ wy hsm (hc.below hb))
     have HEF:=hid hF
     clear hF hc hk2 hb2
     go_wp2
     rw [←e2]
     clear e2 c0 c1 c2 c3 c4 c5 m1 lP
     have s0:=Ch.blk_cell HSd.out.2 0
     have s1:=Ch.blk_cell HSd.out.2 1
     have s2:=Ch.blk_cell HSd.out.2 2
     have s3:=Ch.blk_cell HSd.out.2 3
     have s4:=Ch.blk_cell HSd.out.2 4
     have s5:=Ch.blk_cell HSd.out.2 5
     have r2:=Ch.blk_cell HSd.out.1 1
     have y2:w.heap.size+2<w2.heap.size:=by have:w2.heap.size=wr.heap.size+1:=zz;omega
     have y1:wr.heap.size<w2.heap.size:=by have:w2.heap.size=wr.heap.size+1:=zz;omega
     go_region_law (first | (go_simp;go_at_call 135;refine (HC.out _ hbd).mono ?_;rintro z w3 ⟨⟨n1,n2,n3,rfl,hso⟩,hb3o⟩;have hb3:=hbd.trans (hb3o.mono hbd.size);have HS3:Hid (w3.heap[w.heap.size+2]?=some (.cells #[.slice a7 e.procs.length c7,.slice a8 L.length c8,.int .i64 e.now] 27)∧w3.heap[wr.heap.size]?=some (.cells #[.int .i64 x.proc,.int .i64 x.chart.status,.int .i64 x.chart.now,.slice b1 x.chart.vars.length l1,.slice b2 x.chart.marks.length l2,.slice b3 x.chart.dues.length l3] 114)):=hid ⟨(hb3o.block _ (by rw [zz];omega)).trans HSd.out.1,(hb3o.block _ (by rw [zz];omega)).trans HSd.out.2⟩;obtain ⟨q1,p1,hq1⟩:=Ints.owns_slice hso.vars;obtain ⟨q2,p2,hq2⟩:=Ints.owns_slice hso.marks;obtain ⟨q3,p3,hq3⟩:=Ints.owns_slice hso.dues;subst hq1 hq2 hq3;have HB3:=hid hb3;have HSO:=hid hso;have l30:=hb3o.size;rw [zz] at l30;have r3:w3.cell? ⟨w.heap.size+2,1,none⟩=some (.slice a8 L.length c8):=Ch.blk_cell HS3.out.1 1;have r30:w3.cell? ⟨wr.heap.size,0,none⟩=some (.int .i64 x.proc):=Ch.blk_cell HS3.out.2 0;have y3:w.heap.size+2<w3.heap.size:=(by omega);have y30:=Ch.blk_lt HS3.out.2) | (have HS4:Hid ((w3.alloc (.cells #[.int .i64 x.proc,.int .i64 x.chart.status,.int .i64 x.chart.now,.slice q1 x.chart.vars.length p1,.slice q2 x.chart.marks.length p2,.slice q3 x.chart.dues.length p3] 114)).heap[w.heap.size+2]?=some (.cells #[.slice a7 e.procs.length c7,.slice a8 L.length c8,.int .i64 e.now] 27)∧(w3.alloc (.cells #[.int .i64 x.proc,.int .i64 x.chart.status,.int .i64 x.chart.now,.slice q1 x.chart.vars.length p1,.slice q2 x.chart.marks.length p2,.slice q3 x.chart.dues.length p3] 114)).heap[wr.heap.size]?=some (.cells #[.int .i64 x.proc,.int .i64 x.chart.status,.int .i64 x.chart.now,.slice b1 x.chart.vars.length l1,.slice b2 x.chart.marks.length l2,.slice b3 x.chart.dues.length l3] 114)):=hid ⟨(Below.heap_alloc _ _ _ (by omega)).trans HS3.out.1,(Below.heap_alloc _ _ _ (by omega)).trans HS3.out.2⟩;have hb4:Below wr.heap.size wr (w3.alloc (.cells #[.int .i64 x.proc,.int .i64 x.chart.status,.int .i64 x.chart.now,.slice q1 x.chart.vars.length p1,.slice q2 x.chart.marks.length p2,.slice q3 x.chart.dues.length p3] 114)):=HB3.out.alloc (by omega) _;have hrow:Ap.Row (w3.alloc (.cells #[.int .i64 x.proc,.int .i64 x.chart.status,.int .i64 x.chart.now,.slice q1 x.chart.vars.length p1,.slice q2 x.chart.marks.length p2,.slice q3 x.chart.dues.length p3] 114)) 6 (.slice (some ⟨w3.heap.size,0,none⟩) 1 1) 1 [.int .i64 x.proc,.int .i64 x.chart.status,.int .i64 x.chart.now,.slice q1 x.chart.vars.length p1,.slice q2 x.chart.marks.length p2,.slice q3 x.chart.dues.length p3]:=⟨_,_,rfl,rfl,(by simp [Value.oneCell']),.inr ⟨_,rfl,So.news #[.int .i64 x.proc,.int .i64 x.chart.status,.int .i64 x.chart.now,.slice q1 x.chart.vars.length p1,.slice q2 x.chart.marks.length p2,.slice q3 x.chart.dues.length p3] _ _ rfl⟩⟩;have ho:=own_kept HEF.out.row (fun b hb=>hb4.block b (own_lt HEF.out.row hb).2);refine Ap.step_any _ (by rfl) _ _ 25 (by rfl) M 114 ji (.agg #[.int .i64 0,.int .i64 0,.int .i64 0,.slice none 0 0,.slice none 0 0,.slice none 0 0]) 6 96 Tryz.underlying25 hji hi0 hi1 hi2 rfl (by decide) (.slice a8 L.length c8) L.length _ (by rfl) ho (.slice (some ⟨w3.heap.size,0,none⟩) 1 1) 1 [.int .i64 x.proc,.int .i64 x.chart.status,.int .i64 x.chart.now,.slice q1 x.chart.vars.length p1,.slice q2 x.chart.marks.length p2,.slice q3 x.chart.dues.length p3] (by rfl) hrow (by unfold maxLen;omega) (by omega) (by simp;omega) (w3.heap.size+1) (by simp) ?_;intro a9 c9 w9 hown9 hg9 hat9;have l9:=hg9.size;rw [World.size_alloc] at l9;have hov:∀b,own (.slice a8 L.length c8) b→M≤b∧b<wr.heap.size:=fun b hb=>own_lt HEF.out.row hb;have HS9:Hid (w9.heap[w.heap.size+2]?=some (.cells #[.slice a7 e.procs.length c7,.slice a8 L.length c8,.int .i64 e.now] 27)∧w9.heap[wr.heap.size]?=some (.cells #[.int .i64 x.proc,.int .i64 x.chart.status,.int .i64 x.chart.now,.slice b1 x.chart.vars.length l1,.slice b2 x.chart.marks.length l2,.slice b3 x.chart.dues.length l3] 114)):=hid ⟨(hg9.block _ (by simp;omega) (fun e=>by have:=(hov _ e.symm).1;omega)).trans HS4.out.1,(hg9.block _ (by simp;omega) (fun e=>by have:=(hov _ e.symm).2;omega)).trans HS4.out.2⟩;have hsat:=HSO.out.below ((Below.refl w3.heap.size w3).alloc (Nat.le_refl _) (.cells #[.int .i64 x.proc,.int .i64 x.chart.status,.int .i64 x.chart.now,.slice q1 x.chart.vars.length p1,.slice q2 x.chart.marks.length p2,.slice q3 x.chart.dues.length p3] 114));have HO9:Hid (IOwn w9 M (.slice a9 (L.length+1) c9) (L++[x])):=hid ⟨_,_,_,_,_,IRow.push HEF.out (by omega) hb4 hbd.size (IIn.of hsat) hown9 hg9 (by rcases hat9 with h | h;exact .inl h;exact .inr ⟨_,h,by simp⟩)⟩;have HB9:Hid (Below w.heap.size w w9):=hid ((HB.out.trans (hb4.mono lw)).grown hg9 (by simp;omega) (fun b e=>by have:=(hov b e).1;omega));have HK9:Hid (∀b,b<M→b≠w.heap.size+2→w9.heap[b]?=w1.heap[b]?):=hid (fun b hb hne=>(hg9.block _ (by simp;omega) (fun e=>by have:=(hov _ e.symm).1;omega)).trans ((hb4.block b (by omega)).trans (HK.out b hb hne)));have zR:=Ch.blk_lt HS9.out.1;have k9:w9.cell? ⟨w.heap.size+2,1,none⟩=some (.slice a8 L.length c8):=Ch.blk_cell HS9.out.1 1;have fk9:=Ch.blk_free HS9.out.1 1;clear ho hrow hb4 hown9 hg9 hat9 hov r3 y3 r30 y30 HS4 hsat))
     all_goals have HU10:Hid (∃v,(w9.setCell ⟨w.heap.size+1+1,1,none⟩ (.slice a9 (L.length+1) c9)).heap[w.heap.size+2]?=some (.cells #[.slice a7 e.procs.length c7,v,.int .i64 e.now] 27)∧IOwn (w9.setCell ⟨w.heap.size+1+1,1,none⟩ (.slice a9 (L.length+1) c9)) M v (e.insts.take (k+1))):=hid ⟨_,Ch.blk_set (i:=1) HS9.out.1 _,by
      obtain ⟨u19,u29,u39,lo9,hi9,h9⟩:=HO9.out
      rw [HTS.out]
      exact ⟨u19,u29,u39,lo9,hi9,h9.keep (Nat.le_of_eq Ch.size_set.symm) (fun b hb _=>Below.heap_setCell _ _ _ _ (by dsimp only;omega))⟩⟩
     all_goals have HK10:Hid (∀b,b<M→b≠w.heap.size+2→(w9.setCell ⟨w.heap.size+1+1,1,none⟩ (.slice a9 (L.length+1) c9)).heap[b]?=w1.heap[b]?):=hid (fun b hb hne=>(Below.heap_setCell _ _ _ _ (by dsimp only;omega)).trans (HK9.out b hb hne))
     all_goals have HB10:Hid (Below w.heap.size w (w9.setCell ⟨w.heap.size+1+1,1,none⟩ (.slice a9 (L.length+1) c9))):=hid (HB9.out.setCell (p:=⟨w.heap.size+1+1,1,none⟩) (by dsimp only;omega) _)
     all_goals have l10:M≤(w9.setCell ⟨w.heap.size+1+1,1,none⟩ (.slice a9 (L.length+1) c9)).heap.size:=by rw [Ch.size_set];omega
     all_goals clear k9 fk9 zR s0 s1 s2 s3 s4 s5 r2 y1 y2
     all_goals go_wp2
     all_goals exact ⟨⟨k+1,by simp,by omega,HU10,HK10,HB10,l10⟩,by simp [intOf];omega⟩
    ·have HX:Hid (∃v,wr.heap[w.heap.size+2]?=some (.cells #[.slice a7 e.procs.length c7,v,.int .i64 e.now] 27)∧IOwn wr M v e.insts):=hid (by
      have:=HU.out
      rw [List.take_of_length_le (by omega)] at this
      exact this)
     obtain ⟨v,hk2,u1,u2,u3,lo8,hi8,hF⟩:=HX.out
     obtain ⟨a8,c8,hu7⟩:=Nst.own_slice hF.row
     subst hu7
     have HE:Hid (EOwn wr (w.heap.size+3) (.slice a7 e.procs.length c7) (.slice a8 e.insts.length c8) e):=hid ⟨pv,C,E,lo,hi,u1,u2,u3,lo8,hi8,HPR.out.keep (by have:=HS1.out;omega) (fun b hb hl=>HK.out b (by have:=HS1.out;omega) (by omega)),hF.mono (by omega),fun b h1 h2=>by have:=(HPR.out.in h1).2;have:=(hF.in h2).1;have:=HS1.out;omega⟩
     have m0:wr.cell? ⟨w.heap.size+2,0,none⟩=some (.slice a7 e.procs.length c7):=Ch.blk_cell hk2 0
     have m1:wr.cell? ⟨w.heap.size+2,1,none⟩=some (.slice a8 e.insts.length c8):=Ch.blk_cell hk2 1
     have m2:wr.cell? ⟨w.heap.size+2,2,none⟩=some (.int .i64 e.now):=Ch.blk_cell hk2 2
     have hq:wr.heap[w.heap.size+1]?=some (.cells #[.slice none 0 0,.slice none 0 0,.int .i64 0] 27):=(HK.out _ (by omega) (by omega)).trans HQ.out
     have n0:wr.cell? ⟨w.heap.size+1,0,none⟩=some (.slice none 0 0):=Ch.blk_cell hq 0
     have n1:wr.cell? ⟨w.heap.size+1,1,none⟩=some (.slice none 0 0):=Ch.blk_cell hq 1
     have n2:wr.cell? ⟨w.heap.size+1,2,none⟩=some (.int .i64 0):=Ch.blk_cell hq 2
     have f0:=Ch.blk_free hq 0
     have f1:=Ch.blk_free hq 1
     have f2:=Ch.blk_free hq 2
     have z0:=Ch.blk_lt hk2
     have z1:=Ch.blk_lt hq
     have p1:wr.cell? ⟨w.heap.size,1,none⟩=some (.slice a2 e.insts.length k2):=Ch.blk_cell HPk.out 1
     have p2:=Ch.blk_lt HPk.out
     clear hk2 hF HX HU hq HPk
     go_wp2
     refine bodyPost_ret (v:=.agg #[.slice a7 e.procs.length c7,.slice a8 e.insts.length c8,.int .i64 e.now]) (by simp [results,Tryz.results88,go_sem,n0,n1,n2]) rfl ⟨⟨_,_,rfl,?_⟩,?_⟩
     ·exact (HE.out.keep (by simp [World.setCell]) (fun b hb _=>by repeat rw [Below.heap_setCell _ _ _ _ (by dsimp only;omega)])).mono (by omega)
     ·exact ((HB.out.setCell (p:=⟨w.heap.size+1,0,none⟩) (by dsimp only;omega) _).setCell (p:=⟨w.heap.size+1,1,none⟩) (by dsimp only;omega) _).setCell (p:=⟨w.heap.size+1,2,none⟩) (by dsimp only;omega) _
end Eo
end Go.Proofs.YtccklgopcjilcaaGreatDoor
