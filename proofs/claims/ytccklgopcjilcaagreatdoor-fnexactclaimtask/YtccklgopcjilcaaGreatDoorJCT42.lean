/- Laid together: FrB, OfK, FrC, EoE, KtA. -/
import Derived.Test.YtccklgopcjilcaaGreatDoorJCT40
import Derived.Test.YtccklgopcjilcaaGreatDoorJCT41
import Derived.Test.YtccklgopcjilcaaGreatDoorJCT34
import Derived.Test.YtccklgopcjilcaaGreatDoorJCT33
import Derived.Test.YtccklgopcjilcaaGreatDoorJCT37
import Derived.Test.YtccklgopcjilcaaGreatDoorJCT23
import Derived.Test.YtccklgopcjilcaaGreatDoorJCT18
import Derived.Test.YtccklgopcjilcaaGreatDoorJCT9
import Derived.Deep.RegionHeld3
import Derived.Deep.Cut
/- The program's ClaimTask. Condition: the table of rules lies as its initialiser lays it. -/
namespace Go.Proofs.YtccklgopcjilcaaGreatDoor
open Go.RowKit Go.Deep
set_option linter.unusedVariables false
set_option linter.unusedSimpArgs false
namespace Fr
open Go.ChangeMaps (setBlock)
open En (EngD)
open Cl (ClD)
open Eg (engC)
open Ex (hid)
open Pf (Rul)
open Dk (DeskD deskC askC heldC isU hasI openT ents of_ask of_held of_d of_claims of_claim of_one CJ CJ_eq oneC claimC claimsC TPost rg_ask look)
open Ds (Rise rise_of without ents_without insertC insert_perm insert_rise ents_snoc same_of LPost)
open Of (who who_or COwn)
open Eo (EOwn EOwnC PRow IRow)
open Ch (blk_cell blk_lt blk_free blk_set new_blk new_at)
set_option maxRecDepth 100000 in
set_option maxHeartbeats 8000000 in
theorem implClaim (d:DeskD) (u i s:Int) (vp vi vc:Value) (w:World) (hs:Dk.Small 1048576 d) (ha:Dk.At w 0 vp vi vc d) (hr:Rul w):
    Calls Tryz.prog 38 #[.agg #[vp,vi,.int .i64 d.eng.now,vc],.int .i64 u,.int .i64 i,.int .i64 s] w (DPost (claimTC d u i s) (claimD d u i s) w):=by
 obtain ⟨⟨a1,k1,rfl⟩,⟨a2,k2,rfl⟩,a3,k3,rfl⟩:=ha.slices
 obtain ⟨w0,e0⟩:∃w0,w0=((w.alloc (.cells #[.slice a1 d.eng.procs.length k1,.slice a2 d.eng.insts.length k2,.int .i64 d.eng.now,.slice a3 d.claims.length k3] 30)).alloc (.cells #[.int .i64 0,.int .i64 0,.slice none 0 0,.slice none 0 0,.int .i64 0,.slice none 0 0] 73)).alloc (.cells #[.int .i64 i,.int .i64 s] 147):=⟨_,rfl⟩
 have hb0:Below w.heap.size w w0:=by rw [e0];exact (((Below.refl _ w).alloc (Nat.le_refl _) _).alloc (by simp) _).alloc (by simp;omega) _
 have HK0:Hid (w0.heap[w.heap.size]?=some (.cells #[.slice a1 d.eng.procs.length k1,.slice a2 d.eng.insts.length k2,.int .i64 d.eng.now,.slice a3 d.claims.length k3] 30)):=hid (by rw [e0,Below.heap_alloc _ _ _ (by simp;omega),Below.heap_alloc _ _ _ (by simp),new_blk])
 have HR0:Hid (w0.heap[w.heap.size+1]?=some (.cells #[.int .i64 0,.int .i64 0,.slice none 0 0,.slice none 0 0,.int .i64 0,.slice none 0 0] 73)):=hid (by rw [e0,Below.heap_alloc _ _ _ (by simp)];exact new_at (by simp) _)
 have HT0:Hid (w0.heap[w.heap.size+1+1]?=some (.cells #[.int .i64 i,.int .i64 s] 147)):=hid (by rw [e0];exact new_at (by simp) _)
 have HC:=hid (Dk.implAskedBy d u i s _ _ _ w0 hs (ha.below hb0) (hr.below hb0 hr.lt))
 have HA0:=hid ha.eng
 have HB0:=hid hb0
 have HS:=hid hs
 have HZ0:=hid (blk_lt HT0.out)
 clear ha hb0 hs hr
 go_enter Tryz.func38,Tryz.ntmps38
 go_wp2_with fail
 rw [←e0]
 clear e0
 refine HC.out.mono ?_
 rintro z w1 ⟨h,hb1⟩
 have HB1:=hid (HB0.out.trans (hb1.mono HB0.out.size))
 have HK1:=hid ((hb1.block _ (blk_lt HK0.out)).trans HK0.out)
 have HR1:=hid ((hb1.block _ (blk_lt HR0.out)).trans HR0.out)
 have HT1:=hid ((hb1.block _ (blk_lt HT0.out)).trans HT0.out)
 have HZ1:=hid hb1.size
 clear hb1 HK0 HR0 HT0 HC HB0
 rcases h with ⟨h1,rfl⟩ | ⟨h1,M,rfl,h2,h3⟩
 ·have HX:=hid (ct_ask h1)
  have HY:=hid (claim_bad HX.out h1)
  have b0:(askC d u i s != 0)=true:=bne_iff_ne.2 h1
  generalize askC d u i s=pc at *
  clear h1 HK1 HT1 HA0 HS
  obtain ⟨n0,n1,n2,n3,n4,n5,nf,nl⟩:=six HR1.out
  have f0:=nf 0
  have f1:=nf 1
  have f2:=nf 2
  have f3:=nf 3
  have f4:=nf 4
  have f5:=nf 5
  clear nf
  obtain ⟨w9,e9⟩:∃w9,w9=((((((w1.setCell ⟨w.heap.size+1,0,none⟩ (.int .i64 pc)).setCell ⟨w.heap.size+1,1,none⟩ (.int .i64 0)).setCell ⟨w.heap.size+1,2,none⟩ (.slice none 0 0)).setCell ⟨w.heap.size+1,3,none⟩ (.slice none 0 0)).setCell ⟨w.heap.size+1,4,none⟩ (.int .i64 0)).setCell ⟨w.heap.size+1,5,none⟩ (.slice none 0 0)):=⟨_,rfl⟩
  have K9:w9.heap[w.heap.size+1]?=some (.cells #[.int .i64 pc,.int .i64 0,.slice none 0 0,.slice none 0 0,.int .i64 0,.slice none 0 0] 73):=by rw [e9];have:=(blk_set (i:=5) (blk_set (i:=4) (blk_set (i:=3) (blk_set (i:=2) (blk_set (i:=1) (blk_set (i:=0) HR1.out (.int .i64 pc)) (.int .i64 0)) (.slice none 0 0)) (.slice none 0 0)) (.int .i64 0)) (.slice none 0 0));simpa using this
  have HB9:Hid (Below w.heap.size w w9):=hid (by rw [e9];exact below6 HB1.out (by omega) _ _ _ _ _ _)
  have HO9:=hid (fun b (hb:b≠w.heap.size+1)=>show w9.heap[b]?=w1.heap[b]? by rw [e9];repeat rw [Below.heap_setCell _ _ _ _ (by dsimp only;omega)])
  have HZ9:Hid (w9.heap.size=w1.heap.size):=hid (by rw [e9];simp [World.setCell])
  go_wp2
  rw [←e9]
  clear e9
  obtain ⟨r0,r1,r2,r3,r4,r5,_,_⟩:=six K9
  refine bodyPost_ret (v:=.agg #[.int .i64 pc,.int .i64 0,.slice none 0 0,.slice none 0 0,.int .i64 0,.slice none 0 0]) (by simp [results,Tryz.results38,go_sem,r0,r1,r2,r3,r4,r5]) rfl ?_
  exact DPost.bad HX.out HY.out HB9.out
 have HASK:=hid h1
 have hask:=hid (of_ask h1)
 have HML:Hid (w.heap.size+1+1<M):=hid (by have:=HZ0.out;omega)
 have hlk:=Dk.look (i:=i) (s:=s) h2 (rg_ask HS.out h1)
 have hln:=fun ty=>Mp.At.len h2 ty
 have hen:(ents d.claims).length=d.claims.length:=by unfold ents;simp
 rw [hen] at hln
 clear hen
 have HM1:=hid h2
 have t0:=blk_cell HT1.out 0
 have t1:=blk_cell HT1.out 1
 have tl:=blk_lt HT1.out
 have b0:((0:Int) != 0)=false:=rfl
 clear h1 h2 h3
 by_cases hw0:who d.claims i s=0
 case neg=>
  have HX:=hid (ct_taken HASK.out hw0)
  have HY:=hid (claim_bad HX.out (by decide))
  have b1:(who d.claims i s != 0)=true:=bne_iff_ne.2 hw0
  generalize who d.claims i s=x at *
  clear hw0 HK1 HA0 HS hln HM1 hask HT1
  obtain ⟨n0,n1,n2,n3,n4,n5,nf,nl⟩:=six HR1.out
  have f0:=nf 0
  have f1:=nf 1
  have f2:=nf 2
  have f3:=nf 3
  have f4:=nf 4
  have f5:=nf 5
  clear nf
  obtain ⟨w9,e9⟩:∃w9,w9=((((((w1.setCell ⟨w.heap.size+1,0,none⟩ (.int .i64 6)).setCell ⟨w.heap.size+1,1,none⟩ (.int .i64 0)).setCell ⟨w.heap.size+1,2,none⟩ (.slice none 0 0)).setCell ⟨w.heap.size+1,3,none⟩ (.slice none 0 0)).setCell ⟨w.heap.size+1,4,none⟩ (.int .i64 0)).setCell ⟨w.heap.size+1,5,none⟩ (.slice none 0 0)):=⟨_,rfl⟩
  have K9:w9.heap[w.heap.size+1]?=some (.cells #[.int .i64 6,.int .i64 0,.slice none 0 0,.slice none 0 0,.int .i64 0,.slice none 0 0] 73):=by rw [e9];have:=(blk_set (i:=5) (blk_set (i:=4) (blk_set (i:=3) (blk_set (i:=2) (blk_set (i:=1) (blk_set (i:=0) HR1.out (.int .i64 6)) (.int .i64 0)) (.slice none 0 0)) (.slice none 0 0)) (.int .i64 0)) (.slice none 0 0));simpa using this
  have HB9:Hid (Below w.heap.size w w9):=hid (by rw [e9];exact below6 HB1.out (by omega) _ _ _ _ _ _)
  have HO9:=hid (fun b (hb:b≠w.heap.size+1)=>show w9.heap[b]?=w1.heap[b]? by rw [e9];repeat rw [Below.heap_setCell _ _ _ _ (by dsimp only;omega)])
  have HZ9:Hid (w9.heap.size=w1.heap.size):=hid (by rw [e9];simp [World.setCell])
  go_wp2
  rw [←e9]
  clear e9
  obtain ⟨r0,r1,r2,r3,r4,r5,_,_⟩:=six K9
  refine bodyPost_ret (v:=.agg #[.int .i64 6,.int .i64 0,.slice none 0 0,.slice none 0 0,.int .i64 0,.slice none 0 0]) (by simp [results,Tryz.results38,go_sem,r0,r1,r2,r3,r4,r5]) rfl ?_
  exact DPost.bad HX.out HY.out HB9.out
 have HW0:=hid hw0
 have b1:(who d.claims i s != 0)=false:=by rw [hw0];rfl
 rw [hw0] at hlk
 rw [hw0] at b1
 by_cases hl:d.claims.length=60
 case pos=>
  have HX:=hid (ct_many HASK.out HW0.out hl)
  have HY:=hid (claim_bad HX.out (by decide))
  have b2:((d.claims.length:Int)==60)=true:=by rw [beq_iff_eq];omega
  clear hl HK1 HA0 HS HM1 hask HT1
  obtain ⟨n0,n1,n2,n3,n4,n5,nf,nl⟩:=six HR1.out
  have f0:=nf 0
  have f1:=nf 1
  have f2:=nf 2
  have f3:=nf 3
  have f4:=nf 4
  have f5:=nf 5
  clear nf
  obtain ⟨w9,e9⟩:∃w9,w9=((((((w1.setCell ⟨w.heap.size+1,0,none⟩ (.int .i64 2)).setCell ⟨w.heap.size+1,1,none⟩ (.int .i64 0)).setCell ⟨w.heap.size+1,2,none⟩ (.slice none 0 0)).setCell ⟨w.heap.size+1,3,none⟩ (.slice none 0 0)).setCell ⟨w.heap.size+1,4,none⟩ (.int .i64 0)).setCell ⟨w.heap.size+1,5,none⟩ (.slice none 0 0)):=⟨_,rfl⟩
  have K9:w9.heap[w.heap.size+1]?=some (.cells #[.int .i64 2,.int .i64 0,.slice none 0 0,.slice none 0 0,.int .i64 0,.slice none 0 0] 73):=by rw [e9];have:=(blk_set (i:=5) (blk_set (i:=4) (blk_set (i:=3) (blk_set (i:=2) (blk_set (i:=1) (blk_set (i:=0) HR1.out (.int .i64 2)) (.int .i64 0)) (.slice none 0 0)) (.slice none 0 0)) (.int .i64 0)) (.slice none 0 0));simpa using this
  have HB9:Hid (Below w.heap.size w w9):=hid (by rw [e9];exact below6 HB1.out (by omega) _ _ _ _ _ _)
  have HO9:=hid (fun b (hb:b≠w.heap.size+1)=>show w9.heap[b]?=w1.heap[b]? by rw [e9];repeat rw [Below.heap_setCell _ _ _ _ (by dsimp only;omega)])
  have HZ9:Hid (w9.heap.size=w1.heap.size):=hid (by rw [e9];simp [World.setCell])
  go_wp2
  rw [←e9]
  clear e9
  obtain ⟨r0,r1,r2,r3,r4,r5,_,_⟩:=six K9
  refine bodyPost_ret (v:=.agg #[.int .i64 2,.int .i64 0,.slice none 0 0,.slice none 0 0,.int .i64 0,.slice none 0 0]) (by simp [results,Tryz.results38,go_sem,r0,r1,r2,r3,r4,r5]) rfl ?_
  exact DPost.bad HX.out HY.out HB9.out
 have HXC:=hid (ct_ok HASK.out HW0.out hl)
 have HXD:=hid (claim_ok HXC.out)
 have b2:((d.claims.length:Int)==60)=false:=by rw [beq_eq_false_iff_ne];omega
 have hfr:=who_free hask.out.1 HW0.out
 obtain ⟨o,hput0,hmp,hoth,hsz⟩:=Mp.At.put (p:=(i,s)) HM1.out (rg_ask HS.out HASK.out) hfr.1 (.int .i64 u)
 have hput:(Instr.mapUpdate 149 (.map (some M)) (.agg #[.int .i64 i,.int .i64 s]) (.int .i64 u)).run Tryz.prog w1=.ok () (setBlock w1 M o):=hput0
 clear hput0
 have hens:ents d.claims++[((i,s),Value.int .i64 u)]=ents (d.claims++[⟨i,s,u⟩]):=ents_snoc d.claims ⟨i,s,u⟩
 rw [hens] at hmp
 clear hens
 have HCS:Hid (∀ss:List ClD,ss.Perm (d.claims++[⟨i,s,u⟩])→ss.Pairwise (fun x y=>¬Ds.cmpC y x<0)→ss=insertC d.claims ⟨i,s,u⟩):=hid (fun ss h1 h2=>same_of (h1.trans (insert_perm d.claims ⟨i,s,u⟩).symm) h2 (insert_rise d.claims ⟨i,s,u⟩ (rise_desk hask.out.1) hfr.2))
 have HLEN:Hid ((d.claims++[(⟨i,s,u⟩:ClD)]).length≤1048576):=hid (by have:=(of_d hask.out.1).2.1;simp;omega)
 obtain ⟨w2,e2⟩:∃w2,w2=setBlock w1 M o:=⟨_,rfl⟩
 have os2:w2.os=w1.os∧w2.tape=w1.tape∧w2.output=w1.output:=by rw [e2];exact ⟨rfl,rfl,rfl⟩
 rw [←e2] at hput hmp hoth hsz
 clear e2
 have HB2:Hid (Below w.heap.size w w2):=hid (below_map HB1.out (by have:=HML.out;omega) hoth hsz os2.1 os2.2.1 os2.2.2)
 have HK2:=hid ((hoth _ (show w.heap.size≠M by have:=HML.out;omega)).trans HK1.out)
 have HR2:=hid ((hoth _ (show w.heap.size+1≠M by have:=HML.out;omega)).trans HR1.out)
 have HA2:=hid (HA0.out.below HB2.out)
 have HM2:=hid hmp
 have HZ2:Hid (w.heap.size+1+1<w2.heap.size):=hid (by rw [hsz];have:=HZ0.out;have:=HZ1.out;omega)
 clear hmp hoth hsz os2 HK1 HR1 HT1 HA0 HB1 hfr hask hl HM1 hw0
 have HO:=hid (Eo.implOwnEngine d.eng _ _ w2 HS.out.eng HA2.out)
 have m0:=blk_cell HK2.out 0
 have m1:=blk_cell HK2.out 1
 have m2:=blk_cell HK2.out 2
 have ml:=blk_lt HK2.out
 go_wp2_with fail
 refine HO.out.mono ?_
 rintro z w3 ⟨⟨up,ui,rfl,hu⟩,hb3⟩
 obtain ⟨u1,y1,hy1⟩:=hu.at'.procs.slice
 obtain ⟨u2,y2,hy2⟩:=hu.at'.insts.slice
 subst hy1 hy2
 have HB3:=hid (HB2.out.trans (hb3.mono HB2.out.size))
 have HR3:=hid ((hb3.block _ (blk_lt HR2.out)).trans HR2.out)
 have HM3:=hid (HM2.out.keep (hb3.block M HM2.out.lt))
 have HU3:=hid (Eo.EOwnC.of hu)
 have HZ23:=hid hb3.size
 have HLI:=hid (Ds.implList M (d.claims++[⟨i,s,u⟩]) w3 HM3.out (by have:=HLEN.out;omega))
 clear hu hb3 HO HK2 HR2 HM2 HA2 m0 m1 m2 ml HB2
 go_wp2_with fail
 refine HLI.out.mono ?_
 rintro z w4 ⟨⟨v,ss,rfl,hp,hso,hc⟩,hb4⟩
 have hss:=HCS.out ss hp (hso.imp (fun h=>by omega))
 subst hss
 obtain ⟨c1,c2,hc3⟩:=hc.slice
 subst hc3
 have HB4:=hid (HB3.out.trans (hb4.mono HB3.out.size))
 have HR4:=hid ((hb4.block _ (blk_lt HR3.out)).trans HR3.out)
 have HU4:=hid (HU3.out.below hb4)
 have HC4:=hid hc
 have HZ34:=hid hb4.size
 have HZR:=hid (blk_lt HR3.out)
 clear hp hso hc hb4 HLI HR3 HM3 HU3 HB3
 obtain ⟨n0,n1,n2,n3,n4,n5,nf,nl⟩:=six HR4.out
 have f0:=nf 0
 have f1:=nf 1
 have f2:=nf 2
 have f3:=nf 3
 have f4:=nf 4
 have f5:=nf 5
 clear nf
 obtain ⟨w9,e9⟩:∃w9,w9=((((((w4.setCell ⟨w.heap.size+1,0,none⟩ (.int .i64 0)).setCell ⟨w.heap.size+1,1,none⟩ (.int .i64 0)).setCell ⟨w.heap.size+1,2,none⟩ (.slice u1 d.eng.procs.length y1)).setCell ⟨w.heap.size+1,3,none⟩ (.slice u2 d.eng.insts.length y2)).setCell ⟨w.heap.size+1,4,none⟩ (.int .i64 d.eng.now)).setCell ⟨w.heap.size+1,5,none⟩ (.slice c1 (insertC d.claims ⟨i,s,u⟩).length c2)):=⟨_,rfl⟩
 have K9:w9.heap[w.heap.size+1]?=some (.cells #[.int .i64 0,.int .i64 0,.slice u1 d.eng.procs.length y1,.slice u2 d.eng.insts.length y2,.int .i64 d.eng.now,.slice c1 (insertC d.claims ⟨i,s,u⟩).length c2] 73):=by rw [e9];have:=(blk_set (i:=5) (blk_set (i:=4) (blk_set (i:=3) (blk_set (i:=2) (blk_set (i:=1) (blk_set (i:=0) HR4.out (.int .i64 0)) (.int .i64 0)) (.slice u1 d.eng.procs.length y1)) (.slice u2 d.eng.insts.length y2)) (.int .i64 d.eng.now)) (.slice c1 (insertC d.claims ⟨i,s,u⟩).length c2));simpa using this
 have HB9:Hid (Below w.heap.size w w9):=hid (by rw [e9];exact below6 HB4.out (by omega) _ _ _ _ _ _)
 have HO9:=hid (fun b (hb:b≠w.heap.size+1)=>show w9.heap[b]?=w4.heap[b]? by rw [e9];repeat rw [Below.heap_setCell _ _ _ _ (by dsimp only;omega)])
 have HZ9:Hid (w9.heap.size=w4.heap.size):=hid (by rw [e9];simp [World.setCell])
 go_wp2
 rw [←e9]
 clear e9
 obtain ⟨r0,r1,r2,r3,r4,r5,_,_⟩:=six K9
 refine bodyPost_ret (v:=.agg #[.int .i64 0,.int .i64 0,.slice u1 d.eng.procs.length y1,.slice u2 d.eng.insts.length y2,.int .i64 d.eng.now,.slice c1 (insertC d.claims ⟨i,s,u⟩).length c2]) (by simp [results,Tryz.results38,go_sem,r0,r1,r2,r3,r4,r5]) rfl ?_
 rw [HXC.out,HXD.out]
 refine ⟨⟨_,_,_,w3.heap.size,rfl,?_,?_,?_,by rw [HZ9.out];exact HZ34.out⟩,HB9.out⟩
 ·exact Fr.EOwnC.lower (HU4.out.keep (Nat.le_of_eq HZ9.out.symm) (fun b hb _ _=>HO9.out b (by have:=HZ2.out;omega))) (by have:=HZ2.out;omega)
 ·exact HC4.out.kept (fun b e=>HO9.out b (by have:=(HC4.out.lt e).1;have:=HZ23.out;have:=HZ2.out;omega))
 ·have:=HZ23.out;have:=HZ2.out;omega
end Fr
end Go.Proofs.YtccklgopcjilcaaGreatDoor
/- OfferedAt on both sides. Condition on the program's: the table of rules lies as its initialiser lays it. -/
namespace Go.Proofs.YtccklgopcjilcaaGreatDoor
open Go.RowKit Go.Deep
set_option linter.unusedVariables false
set_option linter.unusedSimpArgs false
namespace Of
open Dk (DeskD deskC openT of_d inst_ok instD_eq implClaimsOn specFault)
open Cl (ClD)
open Eg (stepsD of_e)
open Pf (Rul)
open Ex (hid)
open St (old_cell)
open Ch (blk_cell blk_lt blk_free new_blk new_at)
set_option maxRecDepth 100000 in
set_option maxHeartbeats 4000000 in
theorem specWho (B P:Nat) (d:DeskD) (vp vi vc:Value) (i s:Int) (w:World) (hs:Dk.Small 1048576 d) (ha:Dk.At w B vp vi vc d) (hP:w.heap[P]?=some (.cells #[vp,vi,.int .i64 d.eng.now,vc] 30)):
    Calls Tryz.prog 83 #[.pointer (some ⟨P,0,none⟩),.int .i64 i,.int .i64 s] w fun z w'=>z=.returned (.int .i64 (who d.claims i s))∧w'=w:=by
 obtain ⟨⟨a1,k1,rfl⟩,⟨a2,k2,rfl⟩,a3,k3,rfl⟩:=ha.slices
 have hl3:=hs.claims
 have m3:=blk_cell hP 3
 replace m3:w.cell? ⟨P,3,none⟩=some (.slice a3 d.claims.length k3):=m3
 have lP:=blk_lt hP
 have HA:=hid ha.claims
 obtain ⟨zz,hzz⟩:∃zz,who d.claims i s=zz:=⟨_,rfl⟩
 rw [hzz]
 have HZ0:Hid (zz=who (d.claims.drop 0) i s):=hid hzz.symm
 clear ha hP hzz hs
 go_enter Tryz.func83,Tryz.ntmps83
 go_wp2
 go_loopw [7] (fun x wr=>∃k:Nat,x=.int .i64 k∧k≤d.claims.length∧Hid (zz=who (d.claims.drop k) i s)∧Hid (wr=w)) (fun x _=>d.claims.length - (intOf x).toNat)
 case atStart=>exact ⟨0,rfl,Nat.zero_le _,HZ0,hid rfl⟩
 case round=>
  clear HZ0
  obtain ⟨k,rfl,hk,HZ,HW⟩:=hrel
  obtain rfl:=HW.out.symm
  by_cases hlt:k<d.claims.length
  ·obtain ⟨g,o,rfl,hg,c0,c1,c2⟩:=HA.out.at hlt
   have t1:(k:Int)<(d.claims.length:Int):=by omega
   cases h1:(d.claims[k].inst==i)
   ·have HN:=hid (HZ.out.trans (who_no hlt (show isAt d.claims[k] i s=false by unfold isAt;rw [h1];rfl)))
    go_wp2
    exact ⟨⟨k+1,by simp,by omega,HN,hid trivial⟩,by simp [intOf];omega⟩
   cases h2:(d.claims[k].step==s)
   ·have HN:=hid (HZ.out.trans (who_no hlt (show isAt d.claims[k] i s=false by unfold isAt;rw [h1,h2];rfl)))
    go_wp2
    exact ⟨⟨k+1,by simp,by omega,HN,hid trivial⟩,by simp [intOf];omega⟩
   ·have HN:=hid (HZ.out.trans (who_yes hlt (show isAt d.claims[k] i s=true by unfold isAt;rw [h1,h2];rfl)))
    go_wp2
    go_ret
    exact ⟨by rw [HN.out];rfl,rfl⟩
  ·have HN:=hid (HZ.out.trans (who_end (by omega)))
   go_wp2
   go_ret
   exact ⟨by rw [HN.out];rfl,rfl⟩
end Of
end Go.Proofs.YtccklgopcjilcaaGreatDoor
/- The specification's l12Without, l12Bad and l12Asked. No condition. -/
namespace Go.Proofs.YtccklgopcjilcaaGreatDoor
open Go.RowKit Go.Deep
set_option linter.unusedVariables false
set_option linter.unusedSimpArgs false
namespace Fr
open Go.ChangeMaps (setBlock)
open En (EngD)
open Cl (ClD)
open Eg (engC)
open Ex (hid)
open Pf (Rul)
open Dk (DeskD deskC askC heldC isU hasI openT ents of_ask of_held of_d of_claims of_claim of_one CJ CJ_eq oneC claimC claimsC TPost rg_ask look)
open Ds (Rise rise_of without ents_without insertC insert_perm insert_rise ents_snoc same_of LPost)
open Of (who who_or COwn)
open Eo (EOwn EOwnC PRow IRow)
open Ch (blk_cell blk_lt blk_free blk_set new_blk new_at)
open Of (cv cvals own_snoc row_three)
theorem COwn.empty {w:World} {B g:Nat} (hB:B≤g) (h:w.heap[g]?=some (.cells #[] 143)):COwn w B (.slice (some ⟨g,0,none⟩) 0 0) []:=
 ⟨rfl,.inr ⟨g,0,#[],rfl,hB,h,Nat.le_refl _,Nat.zero_le _,rfl,rfl⟩⟩
set_option maxRecDepth 100000 in
set_option maxHeartbeats 2000000 in
theorem specBad (c:Int) (w:World):Calls Tryz.prog 82 #[.int .i64 c] w fun z w'=>z=.returned (.agg #[.int .i64 c,.int .i64 0,.slice none 0 0,.slice none 0 0,.int .i64 0,.slice none 0 0])∧Below w.heap.size w w':=by
 go_enter Tryz.func82,Tryz.ntmps82
 go_wp2
 refine bodyPost_ret (v:=.agg #[.int .i64 c,.int .i64 0,.slice none 0 0,.slice none 0 0,.int .i64 0,.slice none 0 0]) (by simp [results,Tryz.results82,go_sem]) rfl ⟨rfl,?_⟩
 exact (Below.refl _ w).alloc (Nat.le_refl _) _
set_option maxRecDepth 100000 in
set_option maxHeartbeats 4000000 in
theorem specAsked (B P:Nat) (d:DeskD) (u i s:Int) (vp vi vc:Value) (w:World) (hs:Dk.Small 1048576 d) (ha:Dk.At w B vp vi vc d) (hP:w.heap[P]?=some (.cells #[vp,vi,.int .i64 d.eng.now,vc] 30)):
    Calls Tryz.prog 81 #[.pointer (some ⟨P,0,none⟩),.int .i64 u,.int .i64 i,.int .i64 s] w fun z w'=>z=.returned (.int .i64 (askC d u i s))∧Below w.heap.size w w':=by
 have HF:=hid (Dk.specFault B P d _ _ _ w hs ha hP)
 obtain ⟨⟨a1,k1,rfl⟩,⟨a2,k2,rfl⟩,a3,k3,rfl⟩:=ha.slices
 have hl2:=hs.eng.insts.1
 have HA:=hid ha
 have HK:=hid hP
 have HS:=hid hs
 obtain ⟨zz,hzz⟩:∃zz,Hid (zz=askC d u i s):=⟨_,hid rfl⟩
 rw [←hzz.out]
 clear ha hP hs
 go_enter Tryz.func81,Tryz.ntmps81
 go_wp2_with fail
 refine HF.out.mono ?_
 rintro z w1 ⟨rfl,hb1⟩
 have HB1:=hid hb1
 have HK1:=hid ((hb1.block _ (blk_lt HK.out)).trans HK.out)
 have HA1:=hid (HA.out.below hb1)
 clear hb1 HF HK HA
 by_cases hz:deskC d=0
 case neg=>
  have HX:=hid (hzz.out.trans (Dk.ask_desk (u:=u) (i:=i) (s:=s) hz))
  have b0:(deskC d != 0)=true:=bne_iff_ne.2 hz
  generalize deskC d=pc at *
  clear hz
  go_wp2
  go_ret
  exact ⟨by rw [HX.out];rfl,HB1.out⟩
 have HZ:=hid hz
 rw [hz]
 have b0:((0:Int) != 0)=false:=rfl
 clear hz
 go_wp2_with fail
 refine (Dk.specUser u _).mono ?_
 rintro z w2 ⟨rfl,hw⟩
 replace hw:=hw.symm
 subst hw
 cases hu:isU u
 ·have HX:=hid (hzz.out.trans (Dk.ask_range (s:=s) HZ.out (show (isU u&&hasI d.eng i)=false by rw [hu];rfl)))
  clear hu
  go_wp2
  go_ret
  exact ⟨by rw [HX.out];rfl,HB1.out⟩
 have m1:=blk_cell HK1.out 1
 have ml:=blk_lt HK1.out
 go_wp2_with fail
 refine (Ex.specIn _ _ _ _).mono ?_
 rintro z w2 ⟨rfl,hw⟩
 replace hw:=hw.symm
 subst hw
 cases hx:hasI d.eng i
 ·have HX:=hid (hzz.out.trans (Dk.ask_range (s:=s) HZ.out (show (isU u&&hasI d.eng i)=false by rw [hx,Bool.and_false])))
  have b1:Ex.inR i 0 ((d.eng.insts.length:Int) - 1)=false:=hx
  clear hx hu
  go_wp2
  go_ret
  exact ⟨by rw [HX.out];rfl,HB1.out⟩
 have b1:Ex.inR i 0 ((d.eng.insts.length:Int) - 1)=true:=hx
 obtain ⟨i0,i1,i2⟩:=Dk.hasI_in hx
 have HO:=hid (Dk.specOpen B P d.eng _ _ i.toNat s w1 HS.out.eng HA1.out.eng ⟨blk_lt HK1.out,blk_cell HK1.out 0,blk_cell HK1.out 1,blk_cell HK1.out 2⟩ i1 (of_d HZ.out).1)
 have ei:((i.toNat:Nat):Int)=i:=Int.toNat_of_nonneg i0
 rw [ei] at HO
 have HUX:Hid ((isU u&&hasI d.eng i)=true):=hid (by rw [hu,hx];rfl)
 clear hx hu ei i0 i1 i2
 go_wp2_with fail
 refine HO.out.mono ?_
 rintro z w3 ⟨rfl,q,rfl⟩
 have HB3:=hid (Nd.below_drewN HB1.out q)
 cases ho:openT d.eng i s
 ·have HX:=hid (hzz.out.trans (Dk.ask_none HZ.out HUX.out ho))
  clear ho m1 ml
  go_wp2
  go_ret
  exact ⟨by rw [HX.out];rfl,HB3.out⟩
 ·have HX:=hid (hzz.out.trans (Dk.ask_ok HZ.out HUX.out ho))
  clear ho m1 ml
  go_wp2
  go_ret
  exact ⟨by rw [HX.out];rfl,HB3.out⟩
end Fr
end Go.Proofs.YtccklgopcjilcaaGreatDoor
/- Processes copied by the specification: l11Copies. -/
namespace Go.Proofs.YtccklgopcjilcaaGreatDoor
open Go.RowKit Go.Deep
set_option linter.unusedVariables false
namespace Eo
open Ex (hid)
open Nst (own flat own_lt own_kept)
open Go.Proofs.YtccklgopcjilcaaGreatDoor.So (SOwn)
open St (StepD)
theorem take_t {α:Type} {ss:List α} {j:Nat} (h:j<ss.length):ss.take (j+1)=ss.take j++[ss[j]]:=by rw [List.take_succ_eq_append_getElem h]
theorem PRow.made (w:World):PRow (w.alloc (.cells #[] 89)) w.heap.size (.slice (some ⟨w.heap.size,0,none⟩) 0 0) [] (fun _=>.slice none 0 0) (fun _ _=>.slice none 0 0) (fun _ _=>.slice none 0 0) (fun _=>0) (fun _=>0):=
 ⟨Cw.made w _ 1,fun j h=>by simp at h,fun j h=>by simp at h,fun i j h=>by simp at h,fun b _ j h=>by simp at h⟩
set_option maxRecDepth 100000 in
set_option maxHeartbeats 8000000 in
theorem specCopies (B:Nat) (ps:List (List StepD)) (v:Value) (w:World) (hs:Ep.Small 1048576 ps) (ha:Ep.At w B v ps):
    Calls Tryz.prog 97 #[v] w fun z w'=>(∃u,z=.returned u∧POwn w' w.heap.size u ps)∧Below w.heap.size w w':=by
 obtain ⟨a1,k1,rfl⟩:=ha.slice
 have hlp:=hs.1
 obtain ⟨jp,hjp,hp0,hp1,hp2⟩:=info_parts Ep.infoR
 have HA:=hid ha
 have HS0:=hid hs
 clear ha hs
 go_enter Tryz.func97,Tryz.ntmps97
 go_wp2
 go_loopw [3,4] (fun o i wr=>∃(k:Nat),i=.int .i64 k∧k≤ps.length∧(∃a7 n7 c7,o=.slice a7 n7 c7)∧Hid (POwn wr w.heap.size o (ps.take k))∧Hid (Below w.heap.size w wr)) (fun _ i _=>ps.length - (intOf i).toNat)
 case atStart=>exact ⟨0,rfl,Nat.zero_le _,⟨_,_,_,rfl⟩,hid ⟨_,_,_,_,_,PRow.made w⟩,hid ((Below.refl _ w).alloc (Nat.le_refl _) _)⟩
 case round=>
  obtain ⟨k,rfl,hkl,⟨a7,n7,c7,rfl⟩,HO,HB⟩:=hrel
  have lw:=HB.out.size
  by_cases hlt:k<ps.length
  ·have q1:(k:Int)<(ps.length:Int):=by omega
   obtain ⟨g,o,x1,rfl,hg,c0,hst⟩:=(HA.out.below HB.out).at hlt
   obtain ⟨s1,s2,rfl⟩:=hst.slice
   have hsm:=HS0.out.at hlt
   have HTS:=hid (take_t hlt)
   have hn7:n7=(ps.take k).length:=by
    obtain ⟨pv,C,E,lo,hi,hF⟩:=HO.out
    obtain ⟨a',c',e'⟩:=Nst.own_slice hF.row
    cases e';rfl
   have hn24:(ps.take k).length≤1048576:=by simp;omega
   subst hn7
   have HC:=hid (Cw.specCopy B ps[k] _ wr (by have:=hsm.1;omega) hsm.2 hst)
   clear hst hsm
   generalize ps[k]=x at *
   generalize hL:ps.take k=L at *
   clear hL
   go_wp2_with fail
   refine HC.out.mono ?_
   rintro z w3 ⟨⟨un,rfl,hso⟩,hb3⟩
   obtain ⟨q1',q2,hq1⟩:=hso.slice
   subst hq1
   obtain ⟨pv,C,E,lo,hi,hF⟩:=HO.out
   have l3:=hb3.size
   have hb4:Below wr.heap.size wr (w3.alloc (.cells #[.slice q1' x.length q2] 89)):=hb3.alloc l3 _
   have HROW:Hid (Ap.Row (w3.alloc (.cells #[.slice q1' x.length q2] 89)) 1 (.slice (some ⟨w3.heap.size,0,none⟩) 1 1) 1 [.slice q1' x.length q2]):=hid ⟨_,_,rfl,rfl,(by simp [Value.oneCell']),.inr ⟨_,rfl,So.news #[.slice q1' x.length q2] _ _ rfl⟩⟩
   have HRX:=hid (own_kept hF.row (fun b hb=>hb4.block b (own_lt hF.row hb).2))
   have HEF:=hid hF
   have HB4:=hid hb4
   have HSO:=hid (hso.below ((Below.refl w3.heap.size w3).alloc (Nat.le_refl _) (.cells #[.slice q1' x.length q2] 89)))
   clear hF hso hb3 hb4 HO c0 HC
   go_wp2_with (at_builtin;go_must (refine Ap.wpList_any _ rfl _ _ 24 rfl w.heap.size 89 jp (.agg #[.slice none 0 0]) 1 24 Tryz.underlying24 hjp hp0 hp1 hp2 rfl (by decide) _ _ _ rfl HRX.out _ _ _ rfl HROW.out (by unfold maxLen;omega) (by omega) (by simp;omega) _ rfl ?_);intro a9 c9 w9 hown9 hg9 hat9)
   have HO9:Hid (POwn w9 w.heap.size (.slice a9 (L.length+1) c9) (L++[x])):=hid (by
    obtain ⟨ca,ce,hsat⟩:=HSO.out
    exact ⟨_,_,_,_,_,PRow.push HEF.out lw HB4.out (Nat.le_refl _) (PIn.of hsat) hown9 hg9 (by rcases hat9 with h | h;exact .inl h;exact .inr ⟨_,h,by simp⟩)⟩)
   have HB9:Hid (Below w.heap.size w w9):=hid ((HB.out.trans (HB4.out.mono lw)).grown hg9 (by simp;omega) (fun b e=>(own_lt HRX.out e).1))
   clear hown9 hg9 hat9
   go_wp2
   exact ⟨⟨k+1,by simp,by omega,⟨_,_,_,rfl⟩,hid (by rw [HTS.out];exact HO9.out),HB9⟩,by simp [intOf];omega⟩
  ·have HX:Hid (POwn wr w.heap.size (.slice a7 n7 c7) ps):=hid (by
    have:=HO.out
    rw [List.take_of_length_le (by omega)] at this
    exact this)
   clear HO
   go_wp2
   go_ret
   exact ⟨⟨_,rfl,HX.out⟩,HB.out⟩
end Eo
end Go.Proofs.YtccklgopcjilcaaGreatDoor
/- A chart under way in the specification's memory: a struct and three rows, pointed at. -/
namespace Go.Proofs.YtccklgopcjilcaaGreatDoor
open Go.RowKit Go.Deep
set_option linter.unusedVariables false
set_option linter.unusedSimpArgs false
namespace Kt
open Ex (inR evalCode evalVal vFault hid)
open St (StepD)
open Pf
open Kc
structure Row (w:World) (b n ca:Nat) (f:Nat→Int):Prop where
 ex:∃cur:Array Value,w.heap[b]?=some (.cells cur 2)∧cur.size=ca∧∀i,i<n→cur[i]?=some (.int .i64 (f i))
 le:n≤ca
 mx:ca≤maxLen
theorem Row.kept {w w':World} {b n ca:Nat} {f:Nat→Int} (h:Row w b n ca f) (hb:w'.heap[b]?=w.heap[b]?):Row w' b n ca f:=by
 obtain ⟨cur,h1,h2⟩:=h.ex
 exact ⟨⟨cur,hb.trans h1,h2⟩,h.le,h.mx⟩
theorem Row.lt {w:World} {b n ca:Nat} {f:Nat→Int} (h:Row w b n ca f):b<w.heap.size:=by
 obtain ⟨cur,h1,_⟩:=h.ex
 exact (Array.getElem?_eq_some_iff.1 h1).1
theorem Row.cell {w:World} {b n ca:Nat} {f:Nat→Int} (h:Row w b n ca f) {i:Nat} (hi:i<n):w.cell? ⟨b,i,none⟩=some (.int .i64 (f i)):=by
 obtain ⟨cur,h1,_,h3⟩:=h.ex
 rw [←h3 i hi]
 simp [World.cell?,h1]
theorem Row.free {w:World} {b n ca:Nat} {f:Nat→Int} (h:Row w b n ca f) (i:Nat):w.frozen? ⟨b,i,none⟩=false:=by
 obtain ⟨cur,h1,_⟩:=h.ex
 simp [World.frozen?,h1]
theorem Row.set {w:World} {b n ca:Nat} {f f':Nat→Int} (h:Row w b n ca f) {i:Nat} (v:Int) (hi:i<n) (hf:∀j,j<n→f' j=if j=i then v else f j):Row (w.setCell ⟨b,i,none⟩ (.int .i64 v)) b n ca f':=by
 obtain ⟨cur,h1,h2,h3⟩:=h.ex
 have hle:=h.le
 refine ⟨⟨cur.setIfInBounds i (.int .i64 v),Ch.blk_set h1 _,by simp [h2],fun j hj=>?_⟩,h.le,h.mx⟩
 rw [Array.getElem?_setIfInBounds,hf j hj]
 by_cases e:i=j
 ·subst e;rw [if_pos rfl,if_pos (by omega),if_pos rfl]
 ·rw [if_neg e,if_neg (fun h=>e h.symm),h3 j hj]
theorem Row.congr {w:World} {b n ca:Nat} {f f':Nat→Int} (h:Row w b n ca f) (hf:∀j,j<n→f' j=f j):Row w b n ca f':=by
 obtain ⟨cur,h1,h2,h3⟩:=h.ex
 exact ⟨⟨cur,h1,h2,fun j hj=>by rw [hf j hj];exact h3 j hj⟩,h.le,h.mx⟩
theorem Row.nu {w:World} {b n ca:Nat} {f:Nat→Int} (h:Row w b n ca f) {l:List Int} (hl:l.length=n) (hf:∀i,i<n→f i=l.getD i 0) (B:Nat) (hB:B≤b):Nu.At w B (.slice (some ⟨b,0,none⟩) n ca) l:=by
 subst hl
 refine ⟨_,ca,rfl,h.le,h.mx,.inr ⟨b,0,rfl,hB,h.lt,fun i hi=>?_⟩⟩
 rw [Nat.zero_add,h.cell hi,hf i hi,List.getD_eq_getElem?_getD,List.getElem?_eq_getElem hi]
 rfl
structure Pos where
 R:Nat
 A:Nat
 D:Nat
 V:Nat
 ca:Nat
 cd:Nat
 cv:Nat
def vf (s:CS):Nat→Int:=fun i=>s.vars.getD i 0
structure SAt (wg w:World) (P:Pos) (v:Value) (ss:List StepD) (s:CS):Prop where
 st:St.At wg 0 v ss
 bel:Below wg.heap.size wg w
 oR:wg.heap.size≤P.R
 oA:wg.heap.size≤P.A
 oD:wg.heap.size≤P.D
 oV:wg.heap.size≤P.V
 rA:P.R≠P.A
 rD:P.R≠P.D
 rV:P.R≠P.V
 aD:P.A≠P.D
 aV:P.A≠P.V
 dV:P.D≠P.V
 blk:w.heap[P.R]?=some (.cells #[.int .i64 s.status,.int .i64 s.now,.slice (some ⟨P.V,0,none⟩) 4 P.cv,.slice (some ⟨P.A,0,none⟩) ss.length P.ca,.slice (some ⟨P.D,0,none⟩) ss.length P.cd] 112)
 ra:Row w P.A ss.length P.ca s.acts
 rd:Row w P.D ss.length P.cd s.dues
 rv:Row w P.V 4 P.cv (vf s)
 len:s.vars.length=4
theorem SAt.below {wg w w':World} {P:Pos} {v:Value} {ss:List StepD} {s:CS} (h:SAt wg w P v ss s) (hb:Below w.heap.size w w'):SAt wg w' P v ss s:=
 { h with bel:=h.bel.trans (hb.mono h.bel.size),blk:=(hb.block _ (Ch.blk_lt h.blk)).trans h.blk,ra:=h.ra.kept (hb.block _ h.ra.lt),rd:=h.rd.kept (hb.block _ h.rd.lt),rv:=h.rv.kept (hb.block _ h.rv.lt) }
structure Ride (P:Pos) (w w':World):Prop where
 os:w'.os=w.os
 tape:w'.tape=w.tape
 output:w'.output=w.output
 size:w.heap.size≤w'.heap.size
 block:∀b,b<w.heap.size→b≠P.R→b≠P.A→b≠P.D→b≠P.V→w'.heap[b]?=w.heap[b]?
theorem Ride.of_below {P:Pos} {w w':World} (h:Below w.heap.size w w'):Ride P w w':=⟨h.os,h.tape,h.output,h.size,fun b hb _ _ _ _=>h.block b hb⟩
theorem Ride.refl (P:Pos) (w:World):Ride P w w:=⟨rfl,rfl,rfl,Nat.le_refl _,fun _ _ _ _ _ _=>rfl⟩
theorem Ride.trans {P:Pos} {a b c:World} (h:Ride P a b) (h':Ride P b c):Ride P a c:=
 ⟨h'.os.trans h.os,h'.tape.trans h.tape,h'.output.trans h.output,Nat.le_trans h.size h'.size,fun k hk h1 h2 h3 h4=>(h'.block k (Nat.lt_of_lt_of_le hk h.size) h1 h2 h3 h4).trans (h.block k hk h1 h2 h3 h4)⟩
theorem Ride.set {P:Pos} (w:World) (g o:Nat) (v:Value) (hg:g=P.R∨g=P.A∨g=P.D∨g=P.V):Ride P w (w.setCell ⟨g,o,none⟩ v):=
 ⟨rfl,rfl,rfl,by simp [World.setCell],fun b hb h1 h2 h3 h4=>Below.heap_setCell _ _ _ _ (by dsimp only;omega)⟩
theorem Ride.below {P:Pos} {wg w w':World} {v:Value} {ss:List StepD} {s:CS} (h:Ride P w w') (hs:SAt wg w P v ss s):Below wg.heap.size wg w':=
 ⟨h.os.trans hs.bel.os,h.tape.trans hs.bel.tape,h.output.trans hs.bel.output,Nat.le_trans hs.bel.size h.size,fun b hb=>(h.block b (Nat.lt_of_lt_of_le hb hs.bel.size) (by have:=hs.oR;omega) (by have:=hs.oA;omega) (by have:=hs.oD;omega) (by have:=hs.oV;omega)).trans (hs.bel.block b hb)⟩
theorem SAt.c0 {wg w:World} {P:Pos} {v:Value} {ss:List StepD} {s:CS} (h:SAt wg w P v ss s):w.cell? ⟨P.R,0,none⟩=some (.int .i64 s.status):=Ch.blk_cell h.blk 0
theorem SAt.c1 {wg w:World} {P:Pos} {v:Value} {ss:List StepD} {s:CS} (h:SAt wg w P v ss s):w.cell? ⟨P.R,1,none⟩=some (.int .i64 s.now):=Ch.blk_cell h.blk 1
theorem SAt.c2 {wg w:World} {P:Pos} {v:Value} {ss:List StepD} {s:CS} (h:SAt wg w P v ss s):w.cell? ⟨P.R,2,none⟩=some (.slice (some ⟨P.V,0,none⟩) 4 P.cv):=Ch.blk_cell h.blk 2
theorem SAt.c3 {wg w:World} {P:Pos} {v:Value} {ss:List StepD} {s:CS} (h:SAt wg w P v ss s):w.cell? ⟨P.R,3,none⟩=some (.slice (some ⟨P.A,0,none⟩) ss.length P.ca):=Ch.blk_cell h.blk 3
theorem SAt.c4 {wg w:World} {P:Pos} {v:Value} {ss:List StepD} {s:CS} (h:SAt wg w P v ss s):w.cell? ⟨P.R,4,none⟩=some (.slice (some ⟨P.D,0,none⟩) ss.length P.cd):=Ch.blk_cell h.blk 4
theorem hset {w:World} {g o b:Nat} {v:Value} (h:b≠g):(w.setCell ⟨g,o,none⟩ v).heap[b]?=w.heap[b]?:=Below.heap_setCell _ _ _ _ h
theorem SAt.setV {wg w:World} {P:Pos} {v:Value} {ss:List StepD} {s:CS} (h:SAt wg w P v ss s) {k:Nat} (hk:k<4) (x:Int):SAt wg (w.setCell ⟨P.V,k,none⟩ (.int .i64 x)) P v ss (Kc.setV s k x):=
 { h with
  bel:=h.bel.setCell (p:=⟨P.V,k,none⟩) h.oV _
  blk:=(hset h.rV).trans h.blk
  ra:=h.ra.kept (hset h.aV)
  rd:=h.rd.kept (hset h.dV)
  rv:=h.rv.set x hk (fun j hj=>by
   show (s.vars.set k x).getD j 0=if j=k then x else s.vars.getD j 0
   rw [List.getD_eq_getElem?_getD,List.getD_eq_getElem?_getD,List.getElem?_set]
   have hl:=h.len
   by_cases e:k=j
   ·subst e;rw [if_pos rfl,if_pos (by omega),if_pos rfl];rfl
   ·rw [if_neg e,if_neg (fun h=>e h.symm)])
  len:=by show (s.vars.set k x).length=4;rw [List.length_set];exact h.len }
theorem SAt.congr {wg w:World} {P:Pos} {v:Value} {ss:List StepD} {s s':CS} (h:SAt wg w P v ss s) (h1:s'.status=s.status) (h2:s'.now=s.now) (h3:s'.vars=s.vars) (h4:∀i,i<ss.length→s'.acts i=s.acts i) (h5:∀i,i<ss.length→s'.dues i=s.dues i):SAt wg w P v ss s':=
 { h with
  blk:=by rw [h1,h2];exact h.blk
  ra:=h.ra.congr h4
  rd:=h.rd.congr h5
  rv:=h.rv.congr (fun j _=>by show s'.vars.getD j 0=s.vars.getD j 0;rw [h3])
  len:=by rw [h3];exact h.len }
theorem SAt.proc {wg w:World} {P:Pos} {v:Value} {ss:List StepD} {s:CS} (h:SAt wg w P v ss s):St.At w 0 v ss:=h.st.below h.bel
theorem SAt.vars {wg w:World} {P:Pos} {v:Value} {ss:List StepD} {s:CS} (h:SAt wg w P v ss s):Nu.At w 0 (.slice (some ⟨P.V,0,none⟩) 4 P.cv) s.vars:=h.rv.nu h.len (fun i _=>rfl) 0 (Nat.zero_le _)
end Kt
end Go.Proofs.YtccklgopcjilcaaGreatDoor
