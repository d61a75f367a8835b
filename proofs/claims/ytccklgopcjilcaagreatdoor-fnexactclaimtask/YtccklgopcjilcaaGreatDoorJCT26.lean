/- Laid together: KfK, KfC. -/
import Derived.Test.YtccklgopcjilcaaGreatDoorJCT25
import Derived.ChangeKeysEq
import Derived.Deep.RegionHeld3
import Derived.Test.YtccklgopcjilcaaGreatDoorJCT24
/- Whether a chart goes together, asked by the program. -/
namespace Go.Proofs.YtccklgopcjilcaaGreatDoor
open Go.RowKit Go.Deep
set_option linter.unusedVariables false
set_option linter.unusedSimpArgs false
namespace Kc
open Ex (inR evalCode evalVal vFault hid)
open St (StepD)
open Ch (RunD)
open Pf
theorem wpList_load_wanted {P:Program} {ops:Array Oper} {rest:List Oper} {op:Oper} {a:Act} {w:World} {Q:Exit→Act→World→Prop} (hw:Region.wanted op (yielded ops a.tmps)=true) (ty:TypeId) (x:Operand) (ho:op.op=.load ty x)
    (b o:Nat) (hx:a.eval x=.pointer (some ⟨b,o,none⟩)) (cs:List Value) (d:TypeDesc) (hc:w.rangeAt b o cs) (hu:P.underlying ty=some d) (hd:d.isRow=true) (hi:(P.info? ty).map (·.size)=some cs.length)
    (h:wpList P ops Q rest (a.put op.dst (.agg cs.toArray)) w):wpList P ops Q (op :: rest) a w:=by
 rw [wpList,if_pos hw]
 exact .inl (wp_load_mid ty x ho b o hx cs d hc hu hd hi h)
/-! ### tables of 24 numbers -/
def tab (f:Nat→Int):List Value:=(List.range 24).map fun i=>.int .i64 (f i)
theorem tab_get {f:Nat→Int} {i:Nat} (h:i<24):(tab f)[i]?=some (.int .i64 (f i)):=by
 unfold tab
 rw [List.getElem?_map,List.getElem?_range h]
 rfl
theorem tab_len (f:Nat→Int):(tab f).length=24:=by simp [tab]
def zero24 (f:Nat→Int):Bool:=(List.range 24).all fun i=>f i==0
theorem und64:Tryz.prog.underlying 2=some (.int .i64):=by kernel_rfl
theorem undTab:Tryz.prog.underlying 127=some (.array 24 2):=by kernel_rfl
theorem infoTab {f:Nat→Int}:(Tryz.prog.info? 127).map (·.size)=some (tab f).length:=by rw [tab_len];kernel_rfl
theorem guardTab:Tryz.prog.eqGuardType Tryz.prog.depth 127=false:=by kernel_rfl
theorem run_part (cs:Array Value) (i:Nat) (v:Value) (w:World) (h:cs[i]?=some v):(part 2 cs i).run Tryz.prog w=.ok v w:=by
 have e:(isAgg 2).run Tryz.prog w=.ok false w:=by kernel_rfl
 simp only [part,Sem.run_bind,e,Result.andThen_ok,Bool.false_eq_true,if_false,h,Sem.run_pure]
theorem run_items (d:Nat) (f:Nat→Int) (ys:Array Value) (hy:∀i,i<24→ys[i]?=some (.int .i64 0)) (w:World):∀(is:List Nat),(∀i∈is,i<24)→(Op.eqItems (d+1) 2 1 (tab f).toArray ys is).run Tryz.prog w=.ok (is.all fun i=>f i==0) w
 | [],_=>by simp [Op.eqItems]
 | i :: is,h=>by
  have h1:i<24:=h i (by simp)
  have ih:=run_items d f ys hy w is (fun x hx=>h x (List.mem_cons_of_mem _ hx))
  have p1:=run_part (tab f).toArray i _ w (by simpa using tab_get (f:=f) h1)
  have p2:=run_part ys i _ w (hy i h1)
  simp only [Op.eqItems,Sem.run_bind,Nat.mul_one,p1,p2,Result.andThen_ok,run_equalIn_int w d 2 .i64 .i64 (f i) 0 und64]
  cases hx:(f i==0)
  ·simp [hx]
  ·simp [hx,ih]
theorem info64:∃i,Tryz.prog.info? 2=some i:=by
 obtain ⟨i,h,_⟩:=info_parts infoI64
 exact ⟨i,h⟩
theorem run_tab (f:Nat→Int) (ys:Array Value) (hy:∀i,i<24→ys[i]?=some (.int .i64 0)) (w:World):(binOp .eql 127 (.agg (tab f).toArray) (.agg ys)).run Tryz.prog w=.ok (.bool (zero24 f)) w:=by
 obtain ⟨i,hi⟩:=info64
 have e:=run_items 9998 f ys hy w (List.range 24) (fun x hx=>List.mem_range.1 hx)
 rw [run_eql_struct,run_equalIn_array w 9999 _ _ undTab hi,show Tryz.prog.cellsOf 2=1 from by kernel_rfl,e]
 rfl
theorem zeros24:∀i,i<24→(#[.int .i64 0,.int .i64 0,.int .i64 0,.int .i64 0,.int .i64 0,.int .i64 0,.int .i64 0,.int .i64 0,.int .i64 0,.int .i64 0,.int .i64 0,.int .i64 0,.int .i64 0,.int .i64 0,.int .i64 0,.int .i64 0,.int .i64 0,.int .i64 0,.int .i64 0,.int .i64 0,.int .i64 0,.int .i64 0,.int .i64 0,.int .i64 0]:Array Value)[i]?=some (.int .i64 0):=fun i hi=>by
 have:i=0∨i=1∨i=2∨i=3∨i=4∨i=5∨i=6∨i=7∨i=8∨i=9∨i=10∨i=11∨i=12∨i=13∨i=14∨i=15∨i=16∨i=17∨i=18∨i=19∨i=20∨i=21∨i=22∨i=23:=by omega
 rcases this with rfl | rfl | rfl | rfl | rfl | rfl | rfl | rfl | rfl | rfl | rfl | rfl | rfl | rfl | rfl | rfl | rfl | rfl | rfl | rfl | rfl | rfl | rfl | rfl <;> rfl
theorem KAt.tabA {wg w:World} {R:Nat} {u:Value} {ss:List StepD} {s:CS} (h:KAt wg w R u ss s):w.rangeAt R 7 (tab s.acts):=fun j v hv=>by
 have hj:j<24:=by have:=(List.getElem?_eq_some_iff.1 hv).1;rwa [tab_len] at this
 rw [tab_get hj] at hv
 cases hv
 exact h.cA hj
theorem KAt.tabD {wg w:World} {R:Nat} {u:Value} {ss:List StepD} {s:CS} (h:KAt wg w R u ss s):w.rangeAt R 31 (tab s.dues):=fun j v hv=>by
 have hj:j<24:=by have:=(List.getElem?_eq_some_iff.1 hv).1;rwa [tab_len] at this
 rw [tab_get hj] at hv
 cases hv
 exact h.cD hj
def noBad (ss:List StepD) (s:CS) (n:Nat):Bool:=(List.range n).all fun k=>!badP ss s.acts s.dues k
theorem noBad_succ (ss:List StepD) (s:CS) (n:Nat):noBad ss s (n+1)=(noBad ss s n&&!badP ss s.acts s.dues n):=by
 unfold noBad
 rw [List.range_succ,List.all_append]
 simp
theorem noBad_no {ss:List StepD} {s:CS} {n k:Nat} (hk:k<n) (h:badP ss s.acts s.dues k=true):noBad ss s n=false:=by
 unfold noBad
 rw [List.all_eq_false]
 exact ⟨k,List.mem_range.2 hk,by simp [h]⟩
def fitsS (ss:List StepD) (s:CS):Bool:=if s.status≠1 then zero24 s.acts&&zero24 s.dues else noBad ss s ss.length&&(s.acts 0==1)
set_option maxRecDepth 100000 in
set_option maxHeartbeats 16000000 in
theorem goesTogether (wg w:World) (R:Nat) (u:Value) (ss:List StepD) (s:CS) (hp:pFault ss=0) (h:KAt wg w R u ss s):
    Calls Tryz.prog 124 #[.pointer (some ⟨R,0,none⟩)] w fun e w'=>e=.returned (.bool (fitsS ss s))∧Below w.heap.size w w':=by
 have hl:ss.length≤24:=by have:=(of_p hp).1;omega
 have c1:=h.c1
 by_cases hst:s.status=1
 ·have HV:Hid (fitsS ss s=(noBad ss s ss.length&&(s.acts 0==1))):=hid (by unfold fitsS;rw [if_neg (by simp [hst])])
  have b1:(s.status != 1)=false:=by simp [hst]
  have HK:=hid h
  have HP:=hid hp
  have hu:=h.c0
  obtain ⟨gu,cu,eu,hgu,_⟩:=h.steps
  rw [eu] at hu
  clear h hp hst
  generalize fitsS ss s=res at *
  go_enter Tryz.func124,Tryz.ntmps124
  go_wp2
  clear hu c1
  go_loopw [4,29] (fun _ x wr=>∃j:Nat,x=.int .i64 j∧j≤ss.length∧Hid (noBad ss s j=true)∧Hid (Below w.heap.size w wr)) (fun _ x _=>ss.length - (intOf x).toNat)
  case atStart=>exact ⟨0,rfl,Nat.zero_le _,hid rfl,hid (Below.refl _ _)⟩
  case round=>
   obtain ⟨j,rfl,hjl,HN,HB⟩:=hrel
   by_cases hlt:j<ss.length
   ·have hK:=HK.out.below HB.out
    obtain ⟨g',cap',e',hg,hc⟩:=hK.steps
    rw [eu] at e'
    cases e'
    obtain ⟨kv,vc,ve,d0,d1,d2,d3,d4,d5,d6,d7,d8,hpc⟩:=hc j hlt
    obtain ⟨ak,ck,rfl⟩:=hpc.kids.slice
    obtain ⟨ac,cc,rfl⟩:=hpc.cond.slice
    obtain ⟨ae,ce,rfl⟩:=hpc.expr.slice
    clear hc
    obtain ⟨w0,e0⟩:∃w0,w0=wr.alloc (.cells #[.int .i64 (j:Int),.int .i64 ((path ss (j+1)).length:Int),.slice ak (kidsL ss j).length ck,.int .i64 ss[j].kind,.int .i64 ss[j].parent,.string ss[j].name,.int .i64 ss[j].arg,.slice ac ss[j].cond.length cc,.slice ae ss[j].expr.length ce] 231):=⟨_,rfl⟩
    have hxA:Below wr.heap.size wr w0:=by rw [e0];exact (Below.refl _ wr).alloc (Nat.le_refl _) _
    have hB0:=HB.out.trans (hxA.mono HB.out.size)
    have hk0:PBlk w0 wr.heap.size #[.int .i64 (j:Int),.int .i64 ((path ss (j+1)).length:Int),.slice ak (kidsL ss j).length ck,.int .i64 ss[j].kind,.int .i64 ss[j].parent,.string ss[j].name,.int .i64 ss[j].arg,.slice ac ss[j].cond.length cc,.slice ae ss[j].expr.length ce]:=by rw [e0];exact Ch.new_blk _ _
    have HOn:=hid (isOn wg w0 R u ss s j (by omega) (hK.below hxA))
    have HRK:=hid (hasRightKids wg w0 R u ss s j hlt hl _ _ _ ((path ss (j+1)).length:Int) (hpc.below hxA) (hK.below hxA))
    have HRD:Hid (∀wx,Below w0.heap.size w0 wx→Calls Tryz.prog 167 #[.pointer (some ⟨R,0,none⟩),.agg #[.int .i64 (j:Int),.int .i64 ((path ss (j+1)).length:Int),.slice ak (kidsL ss j).length ck,.int .i64 ss[j].kind,.int .i64 ss[j].parent,.string ss[j].name,.int .i64 ss[j].arg,.slice ac ss[j].cond.length cc,.slice ae ss[j].expr.length ce]] wx fun e w'=>e=.returned (.bool (rightDue ss s.acts s.dues j))∧Below wx.heap.size wx w'):=hid (fun wx hb=>hasRightDue wg wx R u ss s j hlt HP.out _ _ _ ((path ss (j+1)).length:Int) ((hpc.below hxA).below hb) ((hK.below hxA).below hb))
    have HBad:=hid (fun (hh:badP ss s.acts s.dues j=true)=>noBad_no (ss:=ss) (s:=s) hlt hh)
    have HNx:=hid (noBad_succ ss s j)
    have HE:Hid (badP ss s.acts s.dues j=((ss[j].kind==7&&s.acts j==1) || !rightKids ss s.acts j || !rightDue ss s.acts s.dues j)):=hid (by unfold badP;rw [PJ_eq hlt])
    have q1:(j:Int)<(ss.length:Int):=by omega
    have HK0:=hid hk0
    have HB0:=hid hB0
    have HE0:=hid e0
    have l0:wr.heap.size<w0.heap.size:=Ch.blk_lt hk0
    clear hpc hxA hK hk0 hB0 e0
    generalize badP ss s.acts s.dues j=bp at *
    generalize rightKids ss s.acts j=rk at *
    generalize rightDue ss s.acts s.dues j=rd at *
    by_cases h7:ss[j].kind=7
    ·have b7:(ss[j].kind==7)=true:=by simp [h7]
     rw [b7] at HE
     clear h7
     go_wp2_with fail
     rw [←HE0.out]
     refine HOn.out.mono ?_
     rintro e w1 ⟨rfl,hw1⟩
     replace hw1:=hw1.symm
     subst hw1
     have m0:w0.cell? ⟨wr.heap.size,0,none⟩=_:=HK0.out.cell 0
     have m1:w0.cell? ⟨wr.heap.size,1,none⟩=_:=HK0.out.cell 1
     have m2:w0.cell? ⟨wr.heap.size,2,none⟩=_:=HK0.out.cell 2
     have m3:w0.cell? ⟨wr.heap.size,3,none⟩=_:=HK0.out.cell 3
     have m4:w0.cell? ⟨wr.heap.size,4,none⟩=_:=HK0.out.cell 4
     have m5:w0.cell? ⟨wr.heap.size,5,none⟩=_:=HK0.out.cell 5
     have m6:w0.cell? ⟨wr.heap.size,6,none⟩=_:=HK0.out.cell 6
     have m7:w0.cell? ⟨wr.heap.size,7,none⟩=_:=HK0.out.cell 7
     have m8:w0.cell? ⟨wr.heap.size,8,none⟩=_:=HK0.out.cell 8
     by_cases ha:s.acts j=1
     ·have ba:(s.acts j==1)=true:=by simp [ha]
      rw [ba] at HE ⊢
      have HX:Hid (res=false):=hid (by rw [HV.out,HBad.out (by rw [HE.out];simp)];rfl)
      go_wp2
      go_ret
      exact ⟨by rw [HX.out];rfl,HB0.out⟩
     ·have ba:(s.acts j==1)=false:=by simp [ha]
      rw [ba] at HE ⊢
      clear ha ba
      go_wp2_with fail
      refine HRK.out.mono ?_
      rintro e w1 ⟨rfl,hb1⟩
      have hB1:=HB0.out.trans (hb1.mono HB0.out.size)
      have HK1:=hid (HK0.out.below hb1)
      have m0:w1.cell? ⟨wr.heap.size,0,none⟩=_:=HK1.out.cell 0
      have m1:w1.cell? ⟨wr.heap.size,1,none⟩=_:=HK1.out.cell 1
      have m2:w1.cell? ⟨wr.heap.size,2,none⟩=_:=HK1.out.cell 2
      have m3:w1.cell? ⟨wr.heap.size,3,none⟩=_:=HK1.out.cell 3
      have m4:w1.cell? ⟨wr.heap.size,4,none⟩=_:=HK1.out.cell 4
      have m5:w1.cell? ⟨wr.heap.size,5,none⟩=_:=HK1.out.cell 5
      have m6:w1.cell? ⟨wr.heap.size,6,none⟩=_:=HK1.out.cell 6
      have m7:w1.cell? ⟨wr.heap.size,7,none⟩=_:=HK1.out.cell 7
      have m8:w1.cell? ⟨wr.heap.size,8,none⟩=_:=HK1.out.cell 8
      clear HRK HK0 HB0 HE0 HK1
      cases rk
      ·have HX:Hid (res=false):=hid (by rw [HV.out,HBad.out (by rw [HE.out];simp)];rfl)
       clear HV HBad HNx HE HRD HOn
       go_wp2
       go_ret
       exact ⟨by rw [HX.out];rfl,hB1⟩
      ·go_wp2_with fail
       refine (HRD.out _ hb1).mono ?_
       rintro e w2 ⟨rfl,hb2⟩
       have hB2:=hB1.trans (hb2.mono hB1.size)
       clear hb1 hb2 hB1 m0 m1 m2 m3 m4 m5 m6 m7 m8
       cases rd
       ·have HX:Hid (res=false):=hid (by rw [HV.out,HBad.out (by rw [HE.out];simp)];rfl)
        clear HV HBad HNx HE HRD HOn
        go_wp2
        go_ret
        exact ⟨by rw [HX.out];rfl,hB2⟩
       ·have HX:Hid (noBad ss s (j+1)=true):=hid (by rw [HNx.out,HN.out,HE.out];simp)
        clear HV HBad HNx HE HRD HOn
        go_wp2
        exact ⟨⟨j+1,by simp,by omega,HX,hid hB2⟩,by simp [intOf];omega⟩
    ·have b7:(ss[j].kind==7)=false:=by simp [h7]
     rw [b7] at HE
     clear h7
     go_wp2_with fail
     rw [←HE0.out]
     refine HRK.out.mono ?_
     rintro e w1 ⟨rfl,hb1⟩
     have hB1:=HB0.out.trans (hb1.mono HB0.out.size)
     have HK1:=hid (HK0.out.below hb1)
     have m0:w1.cell? ⟨wr.heap.size,0,none⟩=_:=HK1.out.cell 0
     have m1:w1.cell? ⟨wr.heap.size,1,none⟩=_:=HK1.out.cell 1
     have m2:w1.cell? ⟨wr.heap.size,2,none⟩=_:=HK1.out.cell 2
     have m3:w1.cell? ⟨wr.heap.size,3,none⟩=_:=HK1.out.cell 3
     have m4:w1.cell? ⟨wr.heap.size,4,none⟩=_:=HK1.out.cell 4
     have m5:w1.cell? ⟨wr.heap.size,5,none⟩=_:=HK1.out.cell 5
     have m6:w1.cell? ⟨wr.heap.size,6,none⟩=_:=HK1.out.cell 6
     have m7:w1.cell? ⟨wr.heap.size,7,none⟩=_:=HK1.out.cell 7
     have m8:w1.cell? ⟨wr.heap.size,8,none⟩=_:=HK1.out.cell 8
     clear HRK HK0 HB0 HE0 HK1
     cases rk
     ·have HX:Hid (res=false):=hid (by rw [HV.out,HBad.out (by rw [HE.out];simp)];rfl)
      clear HV HBad HNx HE HRD HOn
      go_wp2
      go_ret
      exact ⟨by rw [HX.out];rfl,hB1⟩
     ·go_wp2_with fail
      refine (HRD.out _ hb1).mono ?_
      rintro e w2 ⟨rfl,hb2⟩
      have hB2:=hB1.trans (hb2.mono hB1.size)
      clear hb1 hb2 hB1 m0 m1 m2 m3 m4 m5 m6 m7 m8
      cases rd
      ·have HX:Hid (res=false):=hid (by rw [HV.out,HBad.out (by rw [HE.out];simp)];rfl)
       clear HV HBad HNx HE HRD HOn
       go_wp2
       go_ret
       exact ⟨by rw [HX.out];rfl,hB2⟩
      ·have HX:Hid (noBad ss s (j+1)=true):=hid (by rw [HNx.out,HN.out,HE.out];simp)
       clear HV HBad HNx HE HRD HOn
       go_wp2
       exact ⟨⟨j+1,by simp,by omega,HX,hid hB2⟩,by simp [intOf];omega⟩
   ·have q1:¬(j:Int)<(ss.length:Int):=by omega
    have hje:j=ss.length:=by omega
    have HX:Hid (res=(s.acts 0==1)):=hid (by rw [HV.out,←hje,HN.out];rfl)
    have HOn:=hid (isOn wg wr R u ss s 0 (by omega) (HK.out.below HB.out))
    clear HV HN hje
    go_wp2_with (go_at_call 165;refine HOn.out.mono ?_;rintro e w3 ⟨rfl,hw3⟩;replace hw3:=hw3.symm;subst hw3)
    go_ret
    exact ⟨by rw [HX.out];rfl,HB.out⟩
 ·have HV:Hid (fitsS ss s=(zero24 s.acts&&zero24 s.dues)):=hid (by unfold fitsS;rw [if_pos hst])
  have b1:(s.status != 1)=true:=bne_iff_ne.2 hst
  have tA:=h.tabA
  have tD:=h.tabD
  have rA:∀w,(binOp .eql 127 (.agg (tab s.acts).toArray) (.agg #[.int .i64 0,.int .i64 0,.int .i64 0,.int .i64 0,.int .i64 0,.int .i64 0,.int .i64 0,.int .i64 0,.int .i64 0,.int .i64 0,.int .i64 0,.int .i64 0,.int .i64 0,.int .i64 0,.int .i64 0,.int .i64 0,.int .i64 0,.int .i64 0,.int .i64 0,.int .i64 0,.int .i64 0,.int .i64 0,.int .i64 0,.int .i64 0])).run Tryz.prog w=.ok (.bool (zero24 s.acts)) w:=fun w=>run_tab _ _ zeros24 w
  have rD:∀w,(binOp .eql 127 (.agg (tab s.dues).toArray) (.agg #[.int .i64 0,.int .i64 0,.int .i64 0,.int .i64 0,.int .i64 0,.int .i64 0,.int .i64 0,.int .i64 0,.int .i64 0,.int .i64 0,.int .i64 0,.int .i64 0,.int .i64 0,.int .i64 0,.int .i64 0,.int .i64 0,.int .i64 0,.int .i64 0,.int .i64 0,.int .i64 0,.int .i64 0,.int .i64 0,.int .i64 0,.int .i64 0])).run Tryz.prog w=.ok (.bool (zero24 s.dues)) w:=fun w=>run_tab _ _ zeros24 w
  have hgd:=guardTab
  clear h hp hst
  generalize fitsS ss s=res at *
  generalize zero24 s.acts=za at *
  generalize zero24 s.dues=zd at *
  cases za
  ·have HX:Hid (res=false):=hid (by rw [HV.out];rfl)
   clear HV
   go_enter Tryz.func124,Tryz.ntmps124
   go_wp2_with (refine wpList_load_mid rfl 127 _ rfl R 7 rfl (tab s.acts) _ tA undTab rfl infoTab ?_)
   go_ret
   exact ⟨by rw [HX.out];rfl,Below.refl _ _⟩
  ·have HX:Hid (res=zd):=hid (by rw [HV.out];rfl)
   clear HV
   go_enter Tryz.func124,Tryz.ntmps124
   go_wp2_with (first | refine wpList_load_mid rfl 127 _ rfl R 7 rfl (tab s.acts) _ tA undTab rfl infoTab ?_ | refine wpList_load_wanted (by rfl) 127 _ rfl R 31 rfl (tab s.dues) _ tD undTab rfl infoTab ?_)
   go_ret
   exact ⟨by rw [HX.out];rfl,Below.refl _ _⟩
end Kc
end Go.Proofs.YtccklgopcjilcaaGreatDoor
/- The chart that is asked, as the program's own; ChartFault of the program. Condition: the table of rules lies as its initialiser lays it. -/
namespace Go.Proofs.YtccklgopcjilcaaGreatDoor
open Go.RowKit Go.Deep
set_option linter.unusedVariables false
set_option linter.unusedSimpArgs false
namespace Kc
open Ex (inR evalCode evalVal vFault hid)
open St (StepD)
open Ch (RunD)
open Pf
def csOf (r:RunD):CS:=⟨r.status,r.now,r.vars,fA r,fD r⟩
def cs0 (r:RunD):CS:=⟨r.status,r.now,[0,0,0,0],fun _=>0,fun _=>0⟩
def ints (l:List Int):List Value:=l.map fun x=>.int .i64 x
theorem ints_len (l:List Int):(ints l).length=l.length:=by simp [ints]
theorem ints_get {l:List Int} {i:Nat} (h:i<l.length):(ints l)[i]?=some (.int .i64 l[i]):=by simp [ints,h]
theorem getD_at {l:List Int} {i:Nat} (h:i<l.length):l.getD i 0=l[i]:=by rw [List.getD_eq_getElem?_getD,List.getElem?_eq_getElem h];rfl
theorem kval_vars {u:Value} {s:CS} {l:List Int} (hl:l.length=4) {j:Nat} (hj:j<55):some (kval u { s with vars:=l } j)=if 3≤j∧j<3+(ints l).length then (ints l)[j - 3]? else some (kval u s j):=by
 rw [ints_len,hl]
 unfold kval
 by_cases h1:3≤j∧j<3+4
 ·rw [if_pos h1,ints_get (by omega),if_neg (by omega),if_neg (by omega),if_neg (by omega),if_pos (by omega)]
  show some (Value.int .i64 (l.getD (j - 3) 0))=_
  rw [getD_at (by omega)]
 ·rw [if_neg h1]
  by_cases h0:j<3
  ·by_cases e0:j=0
   ·simp [e0]
   ·by_cases e1:j=1
    ·simp [e1]
    ·have e2:j=2:=by omega
     simp [e2]
  ·have h7:¬j<7:=by omega
   simp [h7,show j≠0 by omega,show j≠1 by omega,show j≠2 by omega]
theorem kval_acts {u:Value} {s:CS} {l:List Int} (hl:l.length≤24) (h0:∀i,l.length≤i→s.acts i=0) {j:Nat} (hj:j<55):some (kval u { s with acts:=fun i=>l.getD i 0 } j)=if 7≤j∧j<7+(ints l).length then (ints l)[j - 7]? else some (kval u s j):=by
 rw [ints_len]
 unfold kval
 by_cases h1:7≤j∧j<7+l.length
 ·rw [if_pos h1,ints_get (by omega),if_neg (by omega),if_neg (by omega),if_neg (by omega),if_neg (by omega),if_pos (by omega)]
  show some (Value.int .i64 (l.getD (j - 7) 0))=_
  rw [getD_at (by omega)]
 ·rw [if_neg h1]
  by_cases h7:j<7
  ·simp [h7]
  ·by_cases h31:j<31
   ·have e:l.getD (j - 7) 0=0:=by rw [List.getD_eq_getElem?_getD,List.getElem?_eq_none (by omega)];rfl
    have e2:=h0 (j - 7) (by omega)
    simp only [List.getD_eq_getElem?_getD] at e
    simp [h7,h31,e2,e]
   ·simp [h7,h31]
theorem kval_dues {u:Value} {s:CS} {l:List Int} (hl:l.length≤24) (h0:∀i,l.length≤i→s.dues i=0) {j:Nat} (hj:j<55):some (kval u { s with dues:=fun i=>l.getD i 0 } j)=if 31≤j∧j<31+(ints l).length then (ints l)[j - 31]? else some (kval u s j):=by
 rw [ints_len]
 unfold kval
 by_cases h1:31≤j∧j<31+l.length
 ·rw [if_pos h1,ints_get (by omega),if_neg (by omega),if_neg (by omega),if_neg (by omega),if_neg (by omega),if_neg (by omega)]
  show some (Value.int .i64 (l.getD (j - 31) 0))=_
  rw [getD_at (by omega)]
 ·rw [if_neg h1]
  by_cases h31:j<31
  ·simp [h31]
  ·have e:l.getD (j - 31) 0=0:=by rw [List.getD_eq_getElem?_getD,List.getElem?_eq_none (by omega)];rfl
   have e2:=h0 (j - 31) (by omega)
   simp only [List.getD_eq_getElem?_getD] at e
   simp [h31,e2,e]
theorem info64s:(Tryz.prog.info? 2).map (·.size)=some 1:=by kernel_rfl
theorem ints_one (l:List Int):∀v∈ints l,v.oneCell'=true:=fun v hv=>by
 obtain ⟨x,_,rfl⟩:=List.mem_map.1 hv
 rfl
theorem KAt.copy {wg w:World} {R:Nat} {u:Value} {ss:List StepD} {s:CS} (h:KAt wg w R u ss s) {l:List Int} {a:Option Addr} {c:Nat} (ha:Nu.At w 0 (.slice a l.length c) l) {o n:Nat} (hn:l.length≤n) (ho:o+n≤55) (h0:0<l.length) (ty:TypeId):
    (Builtin.copy_ #[110,110] ty #[.slice (some ⟨R,o,none⟩) n n,.slice a l.length c]).run Tryz.prog w=.ok (.int .i64 (l.length:Int)) (w.setCells R o (ints l)):=by
 obtain ⟨g,oo,rfl,_,_⟩:=ha.at h0
 have hc:∀i (hi:i<l.length),w.cell? ⟨g,oo+i,none⟩=some (.int .i64 l[i]):=fun i hi=>by
  obtain ⟨g',o',e,_,hx⟩:=ha.at hi
  cases e
  exact hx
 have:=run_copy_cells (P:=Tryz.prog) w 110 110 ty 2 R o n n ⟨g,oo,none⟩ l.length c (ints l) Tryz.underlying110 info64s (by rw [ints_len];exact (Nat.min_eq_left hn).symm) (fun j v hv=>by
  have hj:j<l.length:=by have:=(List.getElem?_eq_some_iff.1 hv).1;rwa [ints_len] at this
  rw [ints_get hj] at hv
  cases hv
  rw [Addr.add_mid]
  exact hc j hj) (fun j hj=>by rw [ints_len] at hj;rw [h.cell (by omega)];rfl) (fun j hj=>h.free _) (ints_one l)
 rw [ints_len] at this
 exact this
theorem fits_eq {ss:List StepD} {r:RunD} (hp:pFault ss=0) (h1:r.marks.length=ss.length) (h2:r.dues.length=ss.length):fitsS ss (csOf r)=fitsP ss r:=by
 have hl:ss.length≤24:=by have:=(of_p hp).1;omega
 unfold fitsS fitsP
 have z:∀(l:List Int),l.length=ss.length→zero24 (fun i=>l.getD i 0)=zeros l:=fun l hll=>by
  unfold zero24 zeros
  rw [Bool.eq_iff_iff,List.all_eq_true,List.all_eq_true]
  constructor
  ·intro h x hx
   obtain ⟨i,hi,rfl⟩:=List.mem_iff_getElem.1 hx
   have h5:(l.getD i 0==0)=true:=h i (List.mem_range.2 (by omega))
   rwa [getD_at hi] at h5
  ·intro h i hi
   show (l.getD i 0==0)=true
   by_cases hh:i<l.length
   ·rw [getD_at hh];exact h _ (List.getElem_mem hh)
   ·rw [List.getD_eq_getElem?_getD,List.getElem?_eq_none (by omega)];rfl
 show (if r.status≠1 then zero24 (fA r)&&zero24 (fD r) else noBad ss (csOf r) ss.length&&(fA r 0==1))=_
 rw [show zero24 (fA r)=zeros r.marks from z _ h1,show zero24 (fD r)=zeros r.dues from z _ h2]
 have e:noBad ss (csOf r) ss.length=(List.range ss.length).all fun k=>!wrongP ss (fA r) (fD r) k:=by
  unfold noBad
  rw [Bool.eq_iff_iff,List.all_eq_true,List.all_eq_true]
  constructor
  ·intro h k hk;rw [←bad_wrong _ _ hp (List.mem_range.1 hk)];exact h k hk
  ·intro h k hk;rw [show badP ss (csOf r).acts (csOf r).dues k=wrongP ss (fA r) (fD r) k from bad_wrong _ _ hp (List.mem_range.1 hk)];exact h k hk
 rw [e,Bool.and_comm (fA r 0==1)]
theorem getD_past {l:List Int} {i:Nat} (h:l.length≤i):l.getD i 0=0:=by rw [List.getD_eq_getElem?_getD,List.getElem?_eq_none h];rfl
theorem KAt.varsAll {wg w:World} {R:Nat} {u:Value} {ss:List StepD} {s:CS} (h:KAt wg w R u ss s) {l:List Int} (hl:l.length=4):KAt wg (w.setCells R 3 (ints l)) R u ss { s with vars:=l }:=
 h.puts (by rw [ints_len];omega) (fun j hj=>kval_vars hl hj) hl h.pad
theorem KAt.actsAll {wg w:World} {R:Nat} {u:Value} {ss:List StepD} {s:CS} (h:KAt wg w R u ss s) {l:List Int} (hl:l.length=ss.length) (hs:ss.length≤24) (h0:∀i,s.acts i=0):KAt wg (w.setCells R 7 (ints l)) R u ss { s with acts:=fun i=>l.getD i 0 }:=
 h.puts (by rw [ints_len];omega) (fun j hj=>kval_acts (by omega) (fun i _=>h0 i) hj) h.len (fun i hi=>⟨getD_past (by omega),(h.pad i hi).2⟩)
theorem KAt.duesAll {wg w:World} {R:Nat} {u:Value} {ss:List StepD} {s:CS} (h:KAt wg w R u ss s) {l:List Int} (hl:l.length=ss.length) (hs:ss.length≤24) (h0:∀i,s.dues i=0):KAt wg (w.setCells R 31 (ints l)) R u ss { s with dues:=fun i=>l.getD i 0 }:=
 h.puts (by rw [ints_len];omega) (fun j hj=>kval_dues (by omega) (fun i _=>h0 i) hj) h.len (fun i hi=>⟨(h.pad i hi).1,getD_past (by omega)⟩)
theorem KAt.drew {wg w:World} {R:Nat} {u:Value} {ss:List StepD} {s:CS} (h:KAt wg w R u ss s):KAt wg w.drew R u ss s:=h.below (Below.refl _ w).drew
theorem kcs_new (u:Value) (st now:Int):(kcs u ⟨st,now,[0,0,0,0],fun _=>0,fun _=>0⟩).toArray=#[u,.int .i64 st,.int .i64 now,.int .i64 0,.int .i64 0,.int .i64 0,.int .i64 0,.int .i64 0,.int .i64 0,.int .i64 0,.int .i64 0,.int .i64 0,.int .i64 0,.int .i64 0,.int .i64 0,.int .i64 0,.int .i64 0,.int .i64 0,.int .i64 0,.int .i64 0,.int .i64 0,.int .i64 0,.int .i64 0,.int .i64 0,.int .i64 0,.int .i64 0,.int .i64 0,.int .i64 0,.int .i64 0,.int .i64 0,.int .i64 0,.int .i64 0,.int .i64 0,.int .i64 0,.int .i64 0,.int .i64 0,.int .i64 0,.int .i64 0,.int .i64 0,.int .i64 0,.int .i64 0,.int .i64 0,.int .i64 0,.int .i64 0,.int .i64 0,.int .i64 0,.int .i64 0,.int .i64 0,.int .i64 0,.int .i64 0,.int .i64 0,.int .i64 0,.int .i64 0,.int .i64 0,.int .i64 0]:=rfl
def CPost (ss:List StepD) (r:RunD) (w:World) (e:Ending) (w':World):Prop:=
 ((chartC ss r≠0∧e=.returned (.tuple #[.pointer none,.int .i64 (chartC ss r)]))∨(chartC ss r=0∧∃wg R u,e=.returned (.tuple #[.pointer (some ⟨R,0,none⟩),.int .i64 0])∧KAt wg w' R u ss (csOf r)∧w.heap.size≤wg.heap.size))∧Below w.heap.size w w'
theorem CPost.bad {ss:List StepD} {r:RunD} {w w':World} {c:Int} (h:chartC ss r=c) (hc:c≠0) (hb:Below w.heap.size w w'):CPost ss r w (.returned (.tuple #[.pointer none,.int .i64 c])) w':=⟨.inl ⟨by rw [h];exact hc,by rw [h]⟩,hb⟩
set_option maxRecDepth 100000 in
set_option maxHeartbeats 16000000 in
theorem courseOf (ss:List StepD) (r:RunD) (v v1 v2 v3:Value) (w:World) (hsm:St.Small 1048576 ss) (hs:Ch.Small 1048576 r) (ha:St.At w 0 v ss) (hc:Ch.At w 0 v1 v2 v3 r) (hr:Rul w):
    Calls Tryz.prog 72 #[v,.agg #[.int .i64 r.status,.int .i64 r.now,v1,v2,v3]] w (CPost ss r w):=by
 obtain ⟨a,cap,rfl⟩:=ha.slice
 obtain ⟨a1,c1,rfl⟩:=hc.vars.slice
 obtain ⟨a2,c2,rfl⟩:=hc.marks.slice
 obtain ⟨a3,c3,rfl⟩:=hc.dues.slice
 obtain ⟨w0,e0⟩:∃w0,w0=w.alloc (.cells #[.int .i64 r.status,.int .i64 r.now,.slice a1 r.vars.length c1,.slice a2 r.marks.length c2,.slice a3 r.dues.length c3] 112):=⟨_,rfl⟩
 have hb0:Below w.heap.size w w0:=by rw [e0];exact (Below.refl _ w).alloc (Nat.le_refl _) _
 have hk0:w0.heap[w.heap.size]?=some (.cells #[.int .i64 r.status,.int .i64 r.now,.slice a1 r.vars.length c1,.slice a2 r.marks.length c2,.slice a3 r.dues.length c3] 112):=by rw [e0];exact Ch.new_blk _ _
 have HF:=hid (procStepsC ss _ w0 hsm (ha.below hb0) (hr.below hb0 hr.lt))
 have HC:=hid (hc.below hb0)
 have HS:=hid hs
 have HB0:=hid hb0
 clear ha hc hsm hr hs hb0
 go_enter Tryz.func72,Tryz.ntmps72
 go_wp2_with fail
 rw [←e0]
 refine HF.out.mono ?_
 rintro e w1 ⟨⟨u,rfl,hu1,hu2⟩,hb1⟩
 have hk1:=(hb1.block _ (Ch.blk_lt hk0)).trans hk0
 have d0:w1.cell? ⟨w.heap.size,0,none⟩=some (.int .i64 r.status):=Ch.blk_cell hk1 0
 have d1:w1.cell? ⟨w.heap.size,1,none⟩=some (.int .i64 r.now):=Ch.blk_cell hk1 1
 have d2:w1.cell? ⟨w.heap.size,2,none⟩=some (.slice a1 r.vars.length c1):=Ch.blk_cell hk1 2
 have d3:w1.cell? ⟨w.heap.size,3,none⟩=some (.slice a2 r.marks.length c2):=Ch.blk_cell hk1 3
 have d4:w1.cell? ⟨w.heap.size,4,none⟩=some (.slice a3 r.dues.length c3):=Ch.blk_cell hk1 4
 have HB1:=hid (HB0.out.trans (hb1.mono HB0.out.size))
 have HC1:=hid (HC.out.below hb1)
 have HK1:=hid hk1
 clear HF HC hb1 hk0 hk1 HB0 e0
 by_cases hf:pFault ss=0
 ·have b0:(pFault ss != 0)=false:=by simp [hf]
  obtain ⟨hPA,hcap⟩:=hu2 hf
  obtain ⟨gu,cu,rfl,hgu,_⟩:=hPA
  have HPA:=hid (hu2 hf).1
  have HCAP:=hid hcap
  have hl:ss.length≤24:=by have:=(of_p hf).1;omega
  have hpos:0<ss.length:=by have:=(of_p hf).1;omega
  have HP:=hid hf
  have HNF:=hid (numbersFault r (some ⟨gu,0,none⟩) ss.length cu _ _ _ w1 hl HS.out HC1.out)
  clear hu1 hu2 hf hcap
  go_wp2_with fail
  refine HNF.out.mono ?_
  rintro e w2 ⟨rfl,hb2⟩
  have HB2:=hid (HB1.out.trans (hb2.mono HB1.out.size))
  have hk2:=(hb2.block _ (Ch.blk_lt HK1.out)).trans HK1.out
  have m0:w2.cell? ⟨w.heap.size,0,none⟩=some (.int .i64 r.status):=Ch.blk_cell hk2 0
  have m1:w2.cell? ⟨w.heap.size,1,none⟩=some (.int .i64 r.now):=Ch.blk_cell hk2 1
  have HPA2:=hid (HPA.out.below hb2)
  have HC2:=hid (HC1.out.below hb2)
  have HK2:=hid hk2
  clear HNF hb2 hk2 HPA HC1 HK1 HB1 d0 d1 d2 d3 d4
  by_cases hn:numC ss.length r=0
  ·have b2:(numC ss.length r != 0)=false:=by simp [hn]
   obtain ⟨hst,hlm,hld,_,_⟩:=of_num hn
   obtain ⟨_,_,hvf⟩:=of_state hst
   have H4:=hid (Ex.of_v hvf).1
   have HLM:=hid hlm
   have HLD:=hid hld
   have HOKc:=hid (c_ok (r:=r) HP.out hn)
   have HBADc:=hid (c_form (r:=r) HP.out hn)
   have HFE:=hid (fits_eq HP.out hlm hld)
   clear hlm hld hst hvf hn
   obtain ⟨w3,e3⟩:∃w3,w3=w2.alloc (.cells #[.slice (some ⟨gu,0,none⟩) ss.length cu,.int .i64 r.status,.int .i64 r.now,.int .i64 0,.int .i64 0,.int .i64 0,.int .i64 0,.int .i64 0,.int .i64 0,.int .i64 0,.int .i64 0,.int .i64 0,.int .i64 0,.int .i64 0,.int .i64 0,.int .i64 0,.int .i64 0,.int .i64 0,.int .i64 0,.int .i64 0,.int .i64 0,.int .i64 0,.int .i64 0,.int .i64 0,.int .i64 0,.int .i64 0,.int .i64 0,.int .i64 0,.int .i64 0,.int .i64 0,.int .i64 0,.int .i64 0,.int .i64 0,.int .i64 0,.int .i64 0,.int .i64 0,.int .i64 0,.int .i64 0,.int .i64 0,.int .i64 0,.int .i64 0,.int .i64 0,.int .i64 0,.int .i64 0,.int .i64 0,.int .i64 0,.int .i64 0,.int .i64 0,.int .i64 0,.int .i64 0,.int .i64 0,.int .i64 0,.int .i64 0,.int .i64 0,.int .i64 0] 129):=⟨_,rfl⟩
   have h3:Below w2.heap.size w2 w3:=by rw [e3];exact (Below.refl _ w2).alloc (Nat.le_refl _) _
   have HKA:Hid (KAt w2 w3 w2.heap.size (.slice (some ⟨gu,0,none⟩) ss.length cu) ss (cs0 r)):=hid ⟨HPA2.out,HCAP.out,h3,Nat.le_refl _,by rw [e3,cs0,kcs_new];exact Ch.new_blk _ _,rfl,fun _ _=>⟨rfl,rfl⟩⟩
   have l3:w.heap.size<w2.heap.size:=Ch.blk_lt HK2.out
   have hk3:=(HKA.out.bel.block _ l3).trans HK2.out
   have dd3:w3.cell? ⟨w.heap.size,2,none⟩=some (.slice a1 r.vars.length c1):=Ch.blk_cell hk3 2
   obtain ⟨w4,e4⟩:∃w4,w4=w3.drew.setCells w2.heap.size 3 (ints r.vars):=⟨_,rfl⟩
   have hc4:∀ty,(Builtin.copy_ #[110,110] ty #[.slice (some ⟨w2.heap.size,3,none⟩) 4 4,.slice a1 r.vars.length c1]).run Tryz.prog w3.drew=.ok (.int .i64 (r.vars.length:Int)) w4:=fun ty=>by
    rw [e4]
    exact HKA.out.drew.copy ((HC2.out.vars.below HKA.out.bel).below (Below.refl _ w3).drew) (by rw [H4.out];omega) (by omega) (by rw [H4.out];omega) ty
   have HK4:Hid (KAt w2 w4 w2.heap.size (.slice (some ⟨gu,0,none⟩) ss.length cu) ss { cs0 r with vars:=r.vars }):=hid (by rw [e4];exact HKA.out.drew.varsAll H4.out)
   clear e4 hk3
   clear HKA
   go_wp2
   rw [←e3]
   clear e3
   go_region
   clear hc4 dd3
   have hk4:=(HK4.out.bel.block _ l3).trans HK2.out
   have dd4:w4.cell? ⟨w.heap.size,3,none⟩=some (.slice a2 r.marks.length c2):=Ch.blk_cell hk4 3
   obtain ⟨w5,e5⟩:∃w5,w5=w4.drew.setCells w2.heap.size 7 (ints r.marks):=⟨_,rfl⟩
   have hc5:∀ty,(Builtin.copy_ #[110,110] ty #[.slice (some ⟨w2.heap.size,7,none⟩) 24 24,.slice a2 r.marks.length c2]).run Tryz.prog w4.drew=.ok (.int .i64 (r.marks.length:Int)) w5:=fun ty=>by
    rw [e5]
    exact HK4.out.drew.copy ((HC2.out.marks.below HK4.out.bel).below (Below.refl _ w4).drew) (by rw [HLM.out];omega) (by omega) (by rw [HLM.out];omega) ty
   have HK5:Hid (KAt w2 w5 w2.heap.size (.slice (some ⟨gu,0,none⟩) ss.length cu) ss { cs0 r with vars:=r.vars,acts:=fA r }):=hid (by rw [e5];exact HK4.out.drew.actsAll HLM.out hl (fun _=>rfl))
   clear e5 hk4
   clear HK4
   go_wp2
   go_region
   clear hc5 dd4
   have hk5:=(HK5.out.bel.block _ l3).trans HK2.out
   have dd5:w5.cell? ⟨w.heap.size,4,none⟩=some (.slice a3 r.dues.length c3):=Ch.blk_cell hk5 4
   obtain ⟨w6,e6⟩:∃w6,w6=w5.drew.setCells w2.heap.size 31 (ints r.dues):=⟨_,rfl⟩
   have hc6:∀ty,(Builtin.copy_ #[110,110] ty #[.slice (some ⟨w2.heap.size,31,none⟩) 24 24,.slice a3 r.dues.length c3]).run Tryz.prog w5.drew=.ok (.int .i64 (r.dues.length:Int)) w6:=fun ty=>by
    rw [e6]
    exact HK5.out.drew.copy ((HC2.out.dues.below HK5.out.bel).below (Below.refl _ w5).drew) (by rw [HLD.out];omega) (by omega) (by rw [HLD.out];omega) ty
   have HK6:Hid (KAt w2 w6 w2.heap.size (.slice (some ⟨gu,0,none⟩) ss.length cu) ss (csOf r)):=hid (by rw [e6];exact HK5.out.drew.duesAll HLD.out hl (fun _=>rfl))
   clear e6 hk5
   clear HK5
   go_wp2
   go_region
   clear hc6 dd5
   have HGT:=hid (goesTogether w2 w6 _ _ ss (csOf r) HP.out HK6.out)
   rw [HFE.out] at HGT
   have HB6:=hid (HB2.out.trans (HK6.out.bel.mono HB2.out.size))
   have hle:=HB2.out.size
   cases hfit:fitsP ss r
   ·have HX:=hid (HBADc.out hfit)
    rw [hfit] at HGT
    clear hfit HBADc HOKc
    go_wp2_with fail
    refine HGT.out.mono ?_
    rintro e w7 ⟨rfl,hb7⟩
    have HB7:=hid (HB6.out.trans (hb7.mono HB6.out.size))
    clear hb7
    go_wp2
    go_ret2
    exact CPost.bad HX.out (by decide) HB7.out
   ·have HX:=hid (HOKc.out hfit)
    rw [hfit] at HGT
    clear hfit HBADc HOKc
    go_wp2_with fail
    refine HGT.out.mono ?_
    rintro e w7 ⟨rfl,hb7⟩
    have HB7:=hid (HB6.out.trans (hb7.mono HB6.out.size))
    have HK7:=hid (HK6.out.below hb7)
    clear hb7
    go_wp2
    go_ret2
    exact ⟨.inr ⟨HX.out,w2,_,_,rfl,HK7.out,hle⟩,HB7.out⟩
  ·have b2:(numC ss.length r != 0)=true:=bne_iff_ne.2 hn
   have HX:=hid (c_num HP.out hn)
   have HN:=hid hn
   clear hn
   go_wp2
   go_ret2
   exact CPost.bad HX.out HN.out HB2.out
 ·have b0:(pFault ss != 0)=true:=bne_iff_ne.2 hf
  have HX:=hid (c_proc (r:=r) hf)
  have HN:=hid hf
  obtain rfl:=hu1 hf
  clear hf hu1 hu2
  go_wp2
  go_ret2
  exact CPost.bad HX.out HN.out HB1.out
end Kc
end Go.Proofs.YtccklgopcjilcaaGreatDoor
