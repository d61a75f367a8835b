/- Laid together: KwA, EoL. -/
import Derived.Test.YtccklgopcjilcaaGreatDoorJCT42
import Derived.Test.YtccklgopcjilcaaGreatDoorJCT34
import Derived.Test.YtccklgopcjilcaaGreatDoorJCT36
import Derived.Deep.RegionHeld3
/- The specification's copy of a list of numbers. -/
namespace Go.Proofs.YtccklgopcjilcaaGreatDoor
open Go.RowKit Go.Deep
set_option linter.unusedVariables false
set_option linter.unusedSimpArgs false
namespace Kw
open Ex (inR evalCode evalVal vFault hid)
open St (StepD)
open Ch (RunD)
open Pf
open Kc
open Kt (Row Pos SAt Ride)
open Ex (info_parts)
def gf (xs:List Int):Nat→Int:=fun i=>xs.getD i 0
theorem row_of {w:World} {B:Nat} {a:Option Addr} {n c b:Nat} {xs:List Int} (h:w.ownsRow B 2 1 (.slice a n c) n (Ints.vals xs)) (hb:(Value.slice a n c).ownBlock=some b):a=some ⟨b,0,none⟩∧B≤b∧Row w b n c (gf xs):=by
 obtain ⟨hl,⟨h0,_⟩ | ⟨g,cap,cur,hv,hbg,hg,hle,hm,hs,ht⟩⟩:=h
 ·cases h0;cases hb
 ·cases hv
  cases hb
  refine ⟨rfl,hbg,⟨⟨cur,hg,by omega,fun i hi=>?_⟩,hle,hm⟩⟩
  have hx:xs.length=n:=by simpa [Ints.vals] using hl
  have h1:(cur.toList.take (n*1))[i]?=(Ints.vals xs)[i]?:=by rw [ht]
  rw [List.getElem?_take_of_lt (by omega),Array.getElem?_toList] at h1
  rw [h1]
  simp only [Ints.vals,List.getElem?_map,gf]
  rw [List.getElem?_eq_getElem (by omega),List.getD_eq_getElem?_getD,List.getElem?_eq_getElem (by omega)]
  rfl
theorem add_at (b o j:Nat):(⟨b,o,none⟩:Addr).add j=⟨b,o+j,none⟩:=by
 unfold Addr.add
 split
 ·next h=>subst h;rfl
 ·rfl
theorem ap_row {w:World} {B:Nat} {v:Value} {xs:List Int} (h:Nu.At w B v xs):Ap.Row w 1 v xs.length (Ints.vals xs):=by
 obtain ⟨a,cap,rfl,hle,hm,h2⟩:=h
 refine ⟨a,cap,rfl,by simp [Ints.vals],fun u hu=>?_,?_⟩
 ·simp only [Ints.vals,List.mem_map] at hu
  obtain ⟨x,_,rfl⟩:=hu
  rfl
 ·rcases h2 with rfl | ⟨g,o,rfl,hB,hg,hc⟩
  ·exact .inl rfl
  ·refine .inr ⟨_,rfl,fun j u hu=>?_⟩
   simp only [Ints.vals,List.getElem?_map] at hu
   rcases Nat.lt_or_ge j xs.length with hj | hj
   ·rw [List.getElem?_eq_getElem hj] at hu
    cases hu
    rw [add_at]
    exact hc j hj
   ·rw [List.getElem?_eq_none hj] at hu
    cases hu
set_option maxRecDepth 100000 in
set_option maxHeartbeats 4000000 in
theorem specInts (B:Nat) (xs:List Int) (v:Value) (w:World) (hl:xs.length≤1048576) (ha:Nu.At w B v xs):
    Calls Tryz.prog 157 #[v] w fun e w'=>(∃b c,e=.returned (.slice (some ⟨b,0,none⟩) xs.length c)∧w.heap.size≤b∧Row w' b xs.length c (gf xs))∧Below w.heap.size w w':=by
 obtain ⟨a,cap,rfl⟩:=ha.slice
 obtain ⟨w0,e0⟩:∃w0,w0=w.alloc (.cells #[] 2):=⟨_,rfl⟩
 have hb0:Below w.heap.size w w0:=by rw [e0];exact (Below.refl _ w).alloc (Nat.le_refl _) _
 have HO:Hid (w0.ownsRow w.heap.size 2 1 (.slice (some ⟨w.heap.size,0,none⟩) 0 0) 0 []):=hid (by rw [e0];exact World.ownsRow_made w #[] 0 (Nat.le_refl _) (by unfold maxLen;omega) rfl)
 have HR:=hid (ap_row (ha.below hb0))
 have HB0:=hid hb0
 clear ha hb0
 obtain ⟨j0,hj,hy0,hy1,hy2⟩:=info_parts Ex.infoI64
 go_enter Tryz.func157,Tryz.ntmps157
 go_wp2_with (at_builtin;rw [←e0];go_must (refine Ap.wpList_any _ rfl _ _ 110 rfl w.heap.size 2 j0 (.int .i64 0) 1 8 Tryz.underlying110 hj hy0 hy1 hy2 rfl (by decide) _ _ _ rfl HO.out _ _ _ rfl HR.out (by unfold maxLen;omega) (by omega) HB0.out.size _ rfl ?_);intro a9 c9 w9 hown9 hg9 hat9)
 clear e0
 rw [Nat.zero_add] at hown9 hat9
 have hb9:Below w.heap.size w w9:=HB0.out.grown hg9 HB0.out.size (fun b e=>by cases e;exact Nat.le_refl _)
 have h5:∃b,(Value.slice a9 xs.length c9).ownBlock=some b:=by
  rcases hat9 with h | h
  ·exact ⟨_,h⟩
  ·exact ⟨_,h⟩
 obtain ⟨b,hb⟩:=h5
 obtain ⟨rfl,hle,hrow⟩:=row_of hown9 hb
 have HF:=hid hrow
 clear hown9 hat9 hg9 hrow hb
 go_ret
 exact ⟨⟨b,c9,rfl,hle,HF.out⟩,hb9⟩
end Kw
end Go.Proofs.YtccklgopcjilcaaGreatDoor
/- The specification's copy of a chart: its rows are its own. -/
namespace Go.Proofs.YtccklgopcjilcaaGreatDoor
open Go.RowKit Go.Deep
set_option linter.unusedVariables false
set_option linter.unusedSimpArgs false
namespace Kx
open Ex (hid)
open Ch (RunD)
open Kt (Row)
open Kw (gf specInts)
open Ints (vals)
theorem info5:(Tryz.prog.info? 112).map (·.size)=some 5:=by kernel_rfl
def CopyP (r:RunD) (w:World) (e:Ending) (w':World):Prop:=∃b1 b2 b3 d1 d2 d3,e=.returned (.agg #[.int .i64 r.status,.int .i64 r.now,.slice (some ⟨b1,0,none⟩) r.vars.length d1,.slice (some ⟨b2,0,none⟩) r.marks.length d2,.slice (some ⟨b3,0,none⟩) r.dues.length d3])∧w.heap.size≤b1∧b1<b2∧b2<b3∧Row w' b1 r.vars.length d1 (gf r.vars)∧Row w' b2 r.marks.length d2 (gf r.marks)∧Row w' b3 r.dues.length d3 (gf r.dues)∧Below w.heap.size w w'
theorem row_below {w w':World} {b n c:Nat} {f:Nat→Int} (h:Row w b n c f) (hb:Below w.heap.size w w'):Row w' b n c f:=h.kept (hb.block _ h.lt)
set_option maxRecDepth 100000 in
set_option maxHeartbeats 8000000 in
theorem specCopyB (B:Nat) (r:RunD) (v1 v2 v3:Value) (w:World) (hs:Ch.Small 1048576 r) (hc:Ch.At w B v1 v2 v3 r):
    Calls Tryz.prog 119 #[.agg #[.int .i64 r.status,.int .i64 r.now,v1,v2,v3]] w (CopyP r w):=by
 have s1:=hs.vars
 have s2:=hs.marks
 have s3:=hs.dues
 obtain ⟨a1,c1,rfl⟩:=hc.vars.slice
 obtain ⟨a2,c2,rfl⟩:=hc.marks.slice
 obtain ⟨a3,c3,rfl⟩:=hc.dues.slice
 obtain ⟨w0,e0⟩:∃w0,w0=(w.alloc (.cells #[.int .i64 r.status,.int .i64 r.now,.slice a1 r.vars.length c1,.slice a2 r.marks.length c2,.slice a3 r.dues.length c3] 112)).alloc (.cells #[.int .i64 0,.int .i64 0,.slice none 0 0,.slice none 0 0,.slice none 0 0] 112):=⟨_,rfl⟩
 have hb0:Below w.heap.size w w0:=by rw [e0];exact ((Below.refl _ w).alloc (Nat.le_refl _) _).alloc (by simp) _
 have hk0:w0.heap[w.heap.size]?=some (.cells #[.int .i64 r.status,.int .i64 r.now,.slice a1 r.vars.length c1,.slice a2 r.marks.length c2,.slice a3 r.dues.length c3] 112):=by rw [e0,Below.heap_alloc _ _ _ (by simp)];exact Ch.new_blk _ _
 have hz0:w0.heap[w.heap.size+1]?=some (.cells #[.int .i64 0,.int .i64 0,.slice none 0 0,.slice none 0 0,.slice none 0 0] 112):=by rw [e0];exact Ch.new_at (by simp) _
 have HD:Hid (w0.drew.heap[w.heap.size]?=some (.cells #[.int .i64 r.status,.int .i64 r.now,.slice a1 r.vars.length c1,.slice a2 r.marks.length c2,.slice a3 r.dues.length c3] 112)):=hid hk0
 have HZ:Hid (w0.drew.heap[w.heap.size+1]?=some (.cells #[.int .i64 0,.int .i64 0,.slice none 0 0,.slice none 0 0,.slice none 0 0] 112)):=hid hz0
 have HB0:=hid hb0.drew
 have HC0:=hid (hc.below hb0.drew)
 clear hs hc hb0 hk0 hz0
 go_enter Tryz.func119,Tryz.ntmps119
 go_wp2
 rw [←e0]
 clear e0
 refine wp_region_held_drew (S:=fun wx=>wx.heap[w.heap.size]?=some (.cells #[.int .i64 r.status,.int .i64 r.now,.slice a1 r.vars.length c1,.slice a2 r.marks.length c2,.slice a3 r.dues.length c3] 112)) (by kernel_rfl) HD.out (fun hHeld=>?_)
 refine wpAnyH_take (i:=0) (v:=.pointer (some ⟨w.heap.size,0,none⟩)) rfl (by kernel_rfl) (by kernel_rfl) (by kernel_rfl) (fun _ _ _ h=>h) (Or.inl ⟨by kernel_rfl,by intro w hSw;(try dsimp only at hSw);go_simp⟩) (by assumption) ?_
 simp only [Act.put,List.setIfInBounds_toArray,List.set_cons_zero,List.set_cons_succ]
 refine wpAnyH_take (i:=2) (v:=.pointer (some ⟨w.heap.size,1,none⟩)) rfl (by kernel_rfl) (by kernel_rfl) (by kernel_rfl) (fun _ _ _ h=>h) (Or.inl ⟨by kernel_rfl,by intro w hSw;(try dsimp only at hSw);go_simp⟩) (by assumption) ?_
 simp only [Act.put,List.setIfInBounds_toArray,List.set_cons_zero,List.set_cons_succ]
 refine wpAnyH_take (i:=4) (v:=.pointer (some ⟨w.heap.size,2,none⟩)) rfl (by kernel_rfl) (by kernel_rfl) (by kernel_rfl) (fun _ _ _ h=>h) (Or.inl ⟨by kernel_rfl,by intro w hSw;(try dsimp only at hSw);go_simp⟩) (by assumption) ?_
 simp only [Act.put,List.setIfInBounds_toArray,List.set_cons_zero,List.set_cons_succ]
 refine wpAnyH_take (i:=7) (v:=.pointer (some ⟨w.heap.size,3,none⟩)) rfl (by kernel_rfl) (by kernel_rfl) (by kernel_rfl) (fun _ _ _ h=>h) (Or.inl ⟨by kernel_rfl,by intro w hSw;(try dsimp only at hSw);go_simp⟩) (by assumption) ?_
 simp only [Act.put,List.setIfInBounds_toArray,List.set_cons_zero,List.set_cons_succ]
 refine wpAnyH_take (i:=10) (v:=.pointer (some ⟨w.heap.size,4,none⟩)) rfl (by kernel_rfl) (by kernel_rfl) (by kernel_rfl) (fun _ _ _ h=>h) (Or.inl ⟨by kernel_rfl,by intro w hSw;(try dsimp only at hSw);go_simp⟩) (by assumption) ?_
 simp only [Act.put,List.setIfInBounds_toArray,List.set_cons_zero,List.set_cons_succ]
 refine wpAnyH_take (i:=1) (v:=.int .i64 r.status) rfl (by kernel_rfl) (by kernel_rfl) (by kernel_rfl) (fun _ _ _ h=>h) (Or.inl ⟨by kernel_rfl,by intro w hSw;(try dsimp only at hSw);have m0:=Ch.blk_cell hSw 0;have m1:=Ch.blk_cell hSw 1;have m2:=Ch.blk_cell hSw 2;have m3:=Ch.blk_cell hSw 3;have m4:=Ch.blk_cell hSw 4;clear hSw;go_simp⟩) (by assumption) ?_
 simp only [Act.put,List.setIfInBounds_toArray,List.set_cons_zero,List.set_cons_succ]
 refine wpAnyH_take (i:=3) (v:=.int .i64 r.now) rfl (by kernel_rfl) (by kernel_rfl) (by kernel_rfl) (fun _ _ _ h=>h) (Or.inl ⟨by kernel_rfl,by intro w hSw;(try dsimp only at hSw);have m0:=Ch.blk_cell hSw 0;have m1:=Ch.blk_cell hSw 1;have m2:=Ch.blk_cell hSw 2;have m3:=Ch.blk_cell hSw 3;have m4:=Ch.blk_cell hSw 4;clear hSw;go_simp⟩) (by assumption) ?_
 simp only [Act.put,List.setIfInBounds_toArray,List.set_cons_zero,List.set_cons_succ]
 refine wpAnyH_take (i:=5) (v:=.slice a1 r.vars.length c1) rfl (by kernel_rfl) (by kernel_rfl) (by kernel_rfl) (fun _ _ _ h=>h) (Or.inl ⟨by kernel_rfl,by intro w hSw;(try dsimp only at hSw);have m0:=Ch.blk_cell hSw 0;have m1:=Ch.blk_cell hSw 1;have m2:=Ch.blk_cell hSw 2;have m3:=Ch.blk_cell hSw 3;have m4:=Ch.blk_cell hSw 4;clear hSw;go_simp⟩) (by assumption) ?_
 simp only [Act.put,List.setIfInBounds_toArray,List.set_cons_zero,List.set_cons_succ]
 refine wpAnyH_take (i:=8) (v:=.slice a2 r.marks.length c2) rfl (by kernel_rfl) (by kernel_rfl) (by kernel_rfl) (fun _ _ _ h=>h) (Or.inl ⟨by kernel_rfl,by intro w hSw;(try dsimp only at hSw);have m0:=Ch.blk_cell hSw 0;have m1:=Ch.blk_cell hSw 1;have m2:=Ch.blk_cell hSw 2;have m3:=Ch.blk_cell hSw 3;have m4:=Ch.blk_cell hSw 4;clear hSw;go_simp⟩) (by assumption) ?_
 simp only [Act.put,List.setIfInBounds_toArray,List.set_cons_zero,List.set_cons_succ]
 refine wpAnyH_take (i:=11) (v:=.slice a3 r.dues.length c3) rfl (by kernel_rfl) (by kernel_rfl) (by kernel_rfl) (fun _ _ _ h=>h) (Or.inl ⟨by kernel_rfl,by intro w hSw;(try dsimp only at hSw);have m0:=Ch.blk_cell hSw 0;have m1:=Ch.blk_cell hSw 1;have m2:=Ch.blk_cell hSw 2;have m3:=Ch.blk_cell hSw 3;have m4:=Ch.blk_cell hSw 4;clear hSw;go_simp⟩) (by assumption) ?_
 simp only [Act.put,List.setIfInBounds_toArray,List.set_cons_zero,List.set_cons_succ]
 refine wpAnyH_ready (rs:=[6]) (by kernel_rfl) (by simp) ?_
 refine AllReadyH.cons rfl (fun K hK=>?_) AllReadyH.nil
 go_simp
 go_at_call 157
 refine (specInts B r.vars _ _ (by omega) HC0.out.vars).mono ?_
 rintro e q1 ⟨⟨b1,d1,rfl,hle1,hrow1⟩,hb⟩
 have HD1:Hid (q1.heap[w.heap.size]?=some (.cells #[.int .i64 r.status,.int .i64 r.now,.slice a1 r.vars.length c1,.slice a2 r.marks.length c2,.slice a3 r.dues.length c3] 112)):=hid ((hb.block _ (Ch.blk_lt HD.out)).trans HD.out)
 have HZ1:Hid (q1.heap[w.heap.size+1]?=some (.cells #[.int .i64 0,.int .i64 0,.slice none 0 0,.slice none 0 0,.slice none 0 0] 112)):=hid ((hb.block _ (Ch.blk_lt HZ.out)).trans HZ.out)
 have HB1:=hid (HB0.out.trans (hb.mono HB0.out.size))
 have HC1:=hid (HC0.out.below hb)
 have HW1:=hid hrow1
 have lw1:=hrow1.lt
 have lz1:w.heap.size+1<w0.drew.heap.size:=Ch.blk_lt HZ.out
 clear hb hrow1
 go_wp2_with fail
 refine hK.out _ _ HD1.out (fun hHeld=>?_)
 clear hK K
 try simp only [Act.put,List.setIfInBounds_toArray,List.set_cons_zero,List.set_cons_succ]
 refine wpAnyH_ready (rs:=[9]) (by kernel_rfl) (by simp) ?_
 refine AllReadyH.cons rfl (fun K hK=>?_) AllReadyH.nil
 go_simp
 go_at_call 157
 refine (specInts B r.marks _ _ (by omega) HC1.out.marks).mono ?_
 rintro e q2 ⟨⟨b2,d2,rfl,hle2,hrow2⟩,hb⟩
 have HD2:Hid (q2.heap[w.heap.size]?=some (.cells #[.int .i64 r.status,.int .i64 r.now,.slice a1 r.vars.length c1,.slice a2 r.marks.length c2,.slice a3 r.dues.length c3] 112)):=hid ((hb.block _ (Ch.blk_lt HD1.out)).trans HD1.out)
 have HZ2:Hid (q2.heap[w.heap.size+1]?=some (.cells #[.int .i64 0,.int .i64 0,.slice none 0 0,.slice none 0 0,.slice none 0 0] 112)):=hid ((hb.block _ (Ch.blk_lt HZ1.out)).trans HZ1.out)
 have HB2:=hid (HB1.out.trans (hb.mono HB1.out.size))
 have HC2:=hid (HC1.out.below hb)
 have HW2:=hid hrow2
 have lw2:=hrow2.lt
 have HW1x:=hid (row_below HW1.out hb)
 have lz2:w.heap.size+1<q1.heap.size:=Ch.blk_lt HZ1.out
 clear hb hrow2
 go_wp2_with fail
 refine hK.out _ _ HD2.out (fun hHeld=>?_)
 clear hK K
 try simp only [Act.put,List.setIfInBounds_toArray,List.set_cons_zero,List.set_cons_succ]
 refine wpAnyH_ready (rs:=[12]) (by kernel_rfl) (by simp) ?_
 refine AllReadyH.cons rfl (fun K hK=>?_) AllReadyH.nil
 go_simp
 go_at_call 157
 refine (specInts B r.dues _ _ (by omega) HC2.out.dues).mono ?_
 rintro e q3 ⟨⟨b3,d3,rfl,hle3,hrow3⟩,hb⟩
 have HD3:Hid (q3.heap[w.heap.size]?=some (.cells #[.int .i64 r.status,.int .i64 r.now,.slice a1 r.vars.length c1,.slice a2 r.marks.length c2,.slice a3 r.dues.length c3] 112)):=hid ((hb.block _ (Ch.blk_lt HD2.out)).trans HD2.out)
 have HZ3:Hid (q3.heap[w.heap.size+1]?=some (.cells #[.int .i64 0,.int .i64 0,.slice none 0 0,.slice none 0 0,.slice none 0 0] 112)):=hid ((hb.block _ (Ch.blk_lt HZ2.out)).trans HZ2.out)
 have HB3:=hid (HB2.out.trans (hb.mono HB2.out.size))
 have HC3:=hid (HC2.out.below hb)
 have HW3:=hid hrow3
 have lw3:=hrow3.lt
 have HW1xx:=hid (row_below HW1x.out hb)
 have HW2x:=hid (row_below HW2.out hb)
 have lz3:w.heap.size+1<q2.heap.size:=Ch.blk_lt HZ2.out
 clear hb hrow3
 go_wp2_with fail
 refine hK.out _ _ HD3.out (fun hHeld=>?_)
 clear hK K
 try simp only [Act.put,List.setIfInBounds_toArray,List.set_cons_zero,List.set_cons_succ]
 refine wpAnyH_take (i:=13) (v:=.agg #[.int .i64 r.status,.int .i64 r.now,.slice (some ⟨b1,0,none⟩) r.vars.length d1,.slice (some ⟨b2,0,none⟩) r.marks.length d2,.slice (some ⟨b3,0,none⟩) r.dues.length d3]) rfl (by kernel_rfl) (by kernel_rfl) (by kernel_rfl) (fun _ _ _ h=>h) (Or.inl ⟨by kernel_rfl,by intro w hSw;(try dsimp only at hSw);go_simp⟩) (by assumption) ?_
 simp only [Act.put,List.setIfInBounds_toArray,List.set_cons_zero,List.set_cons_succ]
 have t0:=Ch.blk_free HZ3.out 0
 have t1:=Ch.blk_free HZ3.out 1
 have t2:=Ch.blk_free HZ3.out 2
 have t3:=Ch.blk_free HZ3.out 3
 have t4:=Ch.blk_free HZ3.out 4
 have z0:q3.cell? ⟨w.heap.size+1,0,none⟩=some (.int .i64 0):=Ch.blk_cell HZ3.out 0
 have z1:q3.cell? ⟨w.heap.size+1,1,none⟩=some (.int .i64 0):=Ch.blk_cell HZ3.out 1
 have z2:q3.cell? ⟨w.heap.size+1,2,none⟩=some (.slice none 0 0):=Ch.blk_cell HZ3.out 2
 have z3:q3.cell? ⟨w.heap.size+1,3,none⟩=some (.slice none 0 0):=Ch.blk_cell HZ3.out 3
 have z4:q3.cell? ⟨w.heap.size+1,4,none⟩=some (.slice none 0 0):=Ch.blk_cell HZ3.out 4
 have lz:=Ch.blk_lt HZ3.out
 obtain ⟨wf,ef⟩:∃wf,wf=(((((q3.setCell ⟨w.heap.size+1,0,none⟩ (.int .i64 r.status)).setCell ⟨w.heap.size+1,1,none⟩ (.int .i64 r.now)).setCell ⟨w.heap.size+1,2,none⟩ (.slice (some ⟨b1,0,none⟩) r.vars.length d1)).setCell ⟨w.heap.size+1,3,none⟩ (.slice (some ⟨b2,0,none⟩) r.marks.length d2)).setCell ⟨w.heap.size+1,4,none⟩ (.slice (some ⟨b3,0,none⟩) r.dues.length d3)):=⟨_,rfl⟩
 have HZF:Hid (wf.heap[w.heap.size+1]?=some (.cells #[.int .i64 r.status,.int .i64 r.now,.slice (some ⟨b1,0,none⟩) r.vars.length d1,.slice (some ⟨b2,0,none⟩) r.marks.length d2,.slice (some ⟨b3,0,none⟩) r.dues.length d3] 112)):=hid (by rw [ef];exact Ch.set5 HZ3.out _ _ _ _ _)
 have oth:∀b,b≠w.heap.size+1→wf.heap[b]?=q3.heap[b]?:=fun b hb=>by rw [ef,Below.heap_setCell _ _ _ _ hb,Below.heap_setCell _ _ _ _ hb,Below.heap_setCell _ _ _ _ hb,Below.heap_setCell _ _ _ _ hb,Below.heap_setCell _ _ _ _ hb]
 have hDF:wf.heap[w.heap.size]?=some (.cells #[.int .i64 r.status,.int .i64 r.now,.slice a1 r.vars.length c1,.slice a2 r.marks.length c2,.slice a3 r.dues.length c3] 112):=(oth _ (by omega)).trans HD3.out
 have HBF:Hid (Below w.heap.size w wf):=hid (by rw [ef];exact Ch.below5 HB3.out (by omega) _ _ _ _ _)
 have HR1:=hid (HW1xx.out.kept (oth b1 (by omega)))
 have HR2:=hid (HW2x.out.kept (oth b2 (by omega)))
 have HR3:=hid (HW3.out.kept (oth b3 (by omega)))
 have HL:Hid (w.heap.size≤b1∧b1<b2∧b2<b3):=hid ⟨by omega,by omega,by omega⟩
 refine wpAnyH_ready (rs:=[14]) (by kernel_rfl) (by simp) ?_
 refine AllReadyH.cons rfl (fun K hK=>?_) AllReadyH.nil
 go_simp
 rw [←ef]
 refine hK.out _ _ hDF (fun hHeld=>?_)
 clear hK K
 try simp only [Act.put,List.setIfInBounds_toArray,List.set_cons_zero,List.set_cons_succ]
 refine wpAnyH_done (by kernel_rfl) ?_ _
 clear hHeld ef oth
 try simp only [List.getElem_toArray,List.getElem_cons_succ,List.getElem_cons_zero,Act.put,List.setIfInBounds_toArray,List.set_cons_zero,List.set_cons_succ]
 go_wp2
 refine bodyPost_ret (results_cell_row Tryz.results119 _ _ (w.heap.size+1) 112 #[.int .i64 r.status,.int .i64 r.now,.slice (some ⟨b1,0,none⟩) r.vars.length d1,.slice (some ⟨b2,0,none⟩) r.marks.length d2,.slice (some ⟨b3,0,none⟩) r.dues.length d3] (0,0) _ rfl HZF.out Tryz.underlying112 rfl info5) rfl ?_
 exact ⟨b1,b2,b3,d1,d2,d3,rfl,HL.out.1,HL.out.2.1,HL.out.2.2,HR1.out,HR2.out,HR3.out,HBF.out⟩
theorem own_of_row {w:World} {B b n c:Nat} {xs:List Int} (h:Row w b n c (gf xs)) (hn:xs.length=n) (hB:B≤b):w.ownsRow B 2 1 (.slice (some ⟨b,0,none⟩) n c) n (vals xs):=by
 obtain ⟨⟨cur,h1,h2,h3⟩,hle,hm⟩:=h
 have hl:(vals xs).length=n:=by simp [vals,hn]
 refine ⟨by rw [hl,Nat.mul_one],.inr ⟨b,c,cur,rfl,hB,h1,hle,hm,by rw [h2,Nat.mul_one],?_⟩⟩
 refine List.ext_getElem? (fun i=>?_)
 rw [Nat.mul_one]
 rcases Nat.lt_or_ge i n with hi | hi
 ·rw [List.getElem?_take_of_lt hi,Array.getElem?_toList,h3 i hi]
  simp only [vals,List.getElem?_map,gf]
  rw [List.getElem?_eq_getElem (by omega),List.getD_eq_getElem?_getD,List.getElem?_eq_getElem (by omega)]
  rfl
 ·rw [List.getElem?_eq_none (by simp;omega),List.getElem?_eq_none (by rw [hl];exact hi)]
theorem specChartCopy (B:Nat) (r:RunD) (v1 v2 v3:Value) (w:World) (hs:Ch.Small 1048576 r) (hc:Ch.At w B v1 v2 v3 r):
    Calls Tryz.prog 119 #[.agg #[.int .i64 r.status,.int .i64 r.now,v1,v2,v3]] w fun e w'=>(∃u1 u2 u3,e=.returned (.agg #[.int .i64 r.status,.int .i64 r.now,u1,u2,u3])∧Cr.Own3 w' w.heap.size u1 u2 u3 r)∧Below w.heap.size w w':=
 (specCopyB B r v1 v2 v3 w hs hc).mono (fun e w' h=>by
  obtain ⟨b1,b2,b3,d1,d2,d3,rfl,l1,l2,l3,r1,r2,r3,hb⟩:=h
  refine ⟨⟨_,_,_,rfl,own_of_row r1 rfl l1,own_of_row r2 rfl (by omega),own_of_row r3 rfl (by omega),fun b h1 h2=>?_,fun b h1 h2=>?_,fun b h1 h2=>?_⟩,hb⟩
  ·have e1:b1=b:=Option.some.inj h1
   have e2:b2=b:=Option.some.inj h2
   omega
  ·have e1:b1=b:=Option.some.inj h1
   have e2:b3=b:=Option.some.inj h2
   omega
  ·have e1:b2=b:=Option.some.inj h1
   have e2:b3=b:=Option.some.inj h2
   omega)
end Kx
end Go.Proofs.YtccklgopcjilcaaGreatDoor
