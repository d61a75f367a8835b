/- Laid together: PiA, Card2, StC, StW. -/
import Derived.Test.YtccklgopcjilcaaGreatDoorJCT4
import Derived.Test.YtccklgopcjilcaaGreatDoorJCT5
import Derived.Test.YtccklgopcjilcaaGreatDoorJCT7
import Derived.Deep.QuietTactic
import Derived.BigQuiet
import Derived.Test.YtccklgopcjilcaaGreatDoorCards
import Derived.Test.YtccklgopcjilcaaGreatDoorTie
import Derived.ShutString
import Derived.ChangeOld
import Derived.Below
import Derived.OpenVars
import Derived.Deep.DeepHandedRow
import Derived.Lib.LaidTab
import Derived.Test.YtccklgopcjilcaaGreatDoorJCT2
/- The program's table of rules, and what is asked of a step by it. Condition of what reads the table: it lies as its initialiser lays it. -/
namespace Go.Proofs.YtccklgopcjilcaaGreatDoor
open Go.RowKit
set_option linter.unusedVariables false
namespace Pf
open Ex (hid inR eFault typeCode typeVal)
open Nd (NodeD)
open St (StepD)
open Tr (nf)
structure RuleD where
 word:ByteArray
 hn:Bool
 he:Bool
 la:Int
 ma:Int
 lk:Int
 mx:Int
def RuleD.row (r:RuleD):Array Value:=#[.string r.word,.bool r.hn,.bool r.he,.int .i64 r.la,.int .i64 r.ma,.int .i64 r.lk,.int .i64 r.mx]
def ruleVals:List Value:=[.string ⟨#[115,101,113]⟩,.bool false,.bool false,.int .i64 0,.int .i64 0,.int .i64 1,.int .i64 24,.string ⟨#[116,97,115,107]⟩,.bool true,.bool false,.int .i64 0,.int .i64 0,.int .i64 0,.int .i64 0,.string ⟨#[120,111,114]⟩,.bool false,.bool false,.int .i64 0,.int .i64 0,.int .i64 2,.int .i64 24,.string ⟨#[97,110,100]⟩,.bool false,.bool false,.int .i64 0,.int .i64 0,.int .i64 2,.int .i64 24,.string ⟨#[119,97,105,116]⟩,.bool false,.bool false,.int .i64 0,.int .i64 9,.int .i64 0,.int .i64 0,.string ⟨#[116,105,109,101,114]⟩,.bool false,.bool false,.int .i64 1,.int .i64 99,.int .i64 0,.int .i64 0,.string ⟨#[115,101,116]⟩,.bool false,.bool true,.int .i64 0,.int .i64 3,.int .i64 0,.int .i64 0,.string ⟨#[103,117,97,114,100]⟩,.bool false,.bool false,.int .i64 1,.int .i64 99,.int .i64 2,.int .i64 2]
def Rul (w:World):Prop:=∀i:Nat,i<56→w.cell? ⟨0,i,none⟩=ruleVals[i]?
theorem Rul.below {w w':World} {B:Nat} (he:Rul w) (h:Below B w w') (hB:0<B):Rul w':=fun i hi=>(h.cell (p:=⟨0,i,none⟩) hB).trans (he i hi)
theorem Rul.lt {w:World} (h:Rul w):0<w.heap.size:=Nd.lt_of_cell (v:=.string ⟨#[115,101,113]⟩) (h 0 (by decide))
def ruleD (k:Int):RuleD:=if k=1 then ⟨⟨#[115,101,113]⟩,false,false,0,0,1,24⟩ else if k=2 then ⟨⟨#[116,97,115,107]⟩,true,false,0,0,0,0⟩ else if k=3 then ⟨⟨#[120,111,114]⟩,false,false,0,0,2,24⟩ else if k=4 then ⟨⟨#[97,110,100]⟩,false,false,0,0,2,24⟩ else if k=5 then ⟨⟨#[119,97,105,116]⟩,false,false,0,9,0,0⟩ else if k=6 then ⟨⟨#[116,105,109,101,114]⟩,false,false,1,99,0,0⟩ else if k=7 then ⟨⟨#[115,101,116]⟩,false,true,0,3,0,0⟩ else if k=8 then ⟨⟨#[103,117,97,114,100]⟩,false,false,1,99,2,2⟩ else ⟨⟨#[]⟩,false,false,0,0,0,0⟩
theorem rule1:ruleD 1=⟨⟨#[115,101,113]⟩,false,false,0,0,1,24⟩:=rfl
theorem rule2:ruleD 2=⟨⟨#[116,97,115,107]⟩,true,false,0,0,0,0⟩:=rfl
theorem rule3:ruleD 3=⟨⟨#[120,111,114]⟩,false,false,0,0,2,24⟩:=rfl
theorem rule4:ruleD 4=⟨⟨#[97,110,100]⟩,false,false,0,0,2,24⟩:=rfl
theorem rule5:ruleD 5=⟨⟨#[119,97,105,116]⟩,false,false,0,9,0,0⟩:=rfl
theorem rule6:ruleD 6=⟨⟨#[116,105,109,101,114]⟩,false,false,1,99,0,0⟩:=rfl
theorem rule7:ruleD 7=⟨⟨#[115,101,116]⟩,false,true,0,3,0,0⟩:=rfl
theorem rule8:ruleD 8=⟨⟨#[103,117,97,114,100]⟩,false,false,1,99,2,2⟩:=rfl
theorem setB {B:Nat} {W w:World} (h:Below B W w) {b o:Nat} (hb:B≤b) (x:Value):Below B W (w.setCell ⟨b,o,none⟩ x):=h.setCell hb x
theorem kinds {k:Int} (h:inR k 1 8=true):k=1∨k=2∨k=3∨k=4∨k=5∨k=6∨k=7∨k=8:=by
 have:=Ex.inR_iff.1 h
 omega
set_option maxRecDepth 100000 in
set_option maxHeartbeats 4000000 in
theorem ruleBad (k:Int) (w:World) (hb:inR k 1 8=false) (hr:Rul w):
    Calls Tryz.prog 191 #[.int .i64 k] w fun e w'=>e=.returned (.tuple #[.agg #[.string ⟨#[]⟩,.bool false,.bool false,.int .i64 0,.int .i64 0,.int .i64 0,.int .i64 0],.bool false])∧Below w.heap.size w w':=by
 have hb':=Ex.inR_not.1 hb
 clear hr
 by_cases h1:k<1
 ·go_enter Tryz.func191,Tryz.ntmps191
  go_wp2
  exact bodyPost_ret (v:=.tuple #[.agg #[.string ⟨#[]⟩,.bool false,.bool false,.int .i64 0,.int .i64 0,.int .i64 0,.int .i64 0],.bool false]) (by simp [results,Tryz.results191,go_sem]) rfl ⟨rfl,(Below.refl _ w).alloc (Nat.le_refl _) _⟩
 ·have h8:8<k:=by omega
  go_enter Tryz.func191,Tryz.ntmps191
  go_wp2
  exact bodyPost_ret (v:=.tuple #[.agg #[.string ⟨#[]⟩,.bool false,.bool false,.int .i64 0,.int .i64 0,.int .i64 0,.int .i64 0],.bool false]) (by simp [results,Tryz.results191,go_sem]) rfl ⟨rfl,(Below.refl _ w).alloc (Nat.le_refl _) _⟩
set_option maxRecDepth 100000 in
set_option maxHeartbeats 4000000 in
theorem ruleOk (k:Int) (w:World) (hin:inR k 1 8=true) (hr:Rul w):
    Calls Tryz.prog 191 #[.int .i64 k] w fun e w'=>e=.returned (.tuple #[.agg (ruleD k).row,.bool true])∧Below w.heap.size w w':=by
 have HR:=hid hr
 have hlt:=hr.lt
 clear hr
 rcases kinds hin with rfl | rfl | rfl | rfl | rfl | rfl | rfl | rfl
 ·clear hin
  have c0:w.cell? ⟨0,0,none⟩=some (.string ⟨#[115,101,113]⟩):=HR.out 0 (by decide)
  have c1:w.cell? ⟨0,1,none⟩=some (.bool false):=HR.out 1 (by decide)
  have c2:w.cell? ⟨0,2,none⟩=some (.bool false):=HR.out 2 (by decide)
  have c3:w.cell? ⟨0,3,none⟩=some (.int .i64 0):=HR.out 3 (by decide)
  have c4:w.cell? ⟨0,4,none⟩=some (.int .i64 0):=HR.out 4 (by decide)
  have c5:w.cell? ⟨0,5,none⟩=some (.int .i64 1):=HR.out 5 (by decide)
  have c6:w.cell? ⟨0,6,none⟩=some (.int .i64 24):=HR.out 6 (by decide)
  go_enter Tryz.func191,Tryz.ntmps191
  go_wp2
  refine bodyPost_ret (v:=.tuple #[.agg #[.string ⟨#[115,101,113]⟩,.bool false,.bool false,.int .i64 0,.int .i64 0,.int .i64 1,.int .i64 24],.bool true]) (by simp [results,Tryz.results191,go_sem]) rfl ⟨rfl,?_⟩
  exact (Below.refl _ w).alloc (Nat.le_refl _) _
 ·clear hin
  have c0:w.cell? ⟨0,7,none⟩=some (.string ⟨#[116,97,115,107]⟩):=HR.out 7 (by decide)
  have c1:w.cell? ⟨0,8,none⟩=some (.bool true):=HR.out 8 (by decide)
  have c2:w.cell? ⟨0,9,none⟩=some (.bool false):=HR.out 9 (by decide)
  have c3:w.cell? ⟨0,10,none⟩=some (.int .i64 0):=HR.out 10 (by decide)
  have c4:w.cell? ⟨0,11,none⟩=some (.int .i64 0):=HR.out 11 (by decide)
  have c5:w.cell? ⟨0,12,none⟩=some (.int .i64 0):=HR.out 12 (by decide)
  have c6:w.cell? ⟨0,13,none⟩=some (.int .i64 0):=HR.out 13 (by decide)
  go_enter Tryz.func191,Tryz.ntmps191
  go_wp2
  refine bodyPost_ret (v:=.tuple #[.agg #[.string ⟨#[116,97,115,107]⟩,.bool true,.bool false,.int .i64 0,.int .i64 0,.int .i64 0,.int .i64 0],.bool true]) (by simp [results,Tryz.results191,go_sem]) rfl ⟨rfl,?_⟩
  exact (Below.refl _ w).alloc (Nat.le_refl _) _
 ·clear hin
  have c0:w.cell? ⟨0,14,none⟩=some (.string ⟨#[120,111,114]⟩):=HR.out 14 (by decide)
  have c1:w.cell? ⟨0,15,none⟩=some (.bool false):=HR.out 15 (by decide)
  have c2:w.cell? ⟨0,16,none⟩=some (.bool false):=HR.out 16 (by decide)
  have c3:w.cell? ⟨0,17,none⟩=some (.int .i64 0):=HR.out 17 (by decide)
  have c4:w.cell? ⟨0,18,none⟩=some (.int .i64 0):=HR.out 18 (by decide)
  have c5:w.cell? ⟨0,19,none⟩=some (.int .i64 2):=HR.out 19 (by decide)
  have c6:w.cell? ⟨0,20,none⟩=some (.int .i64 24):=HR.out 20 (by decide)
  go_enter Tryz.func191,Tryz.ntmps191
  go_wp2
  refine bodyPost_ret (v:=.tuple #[.agg #[.string ⟨#[120,111,114]⟩,.bool false,.bool false,.int .i64 0,.int .i64 0,.int .i64 2,.int .i64 24],.bool true]) (by simp [results,Tryz.results191,go_sem]) rfl ⟨rfl,?_⟩
  exact (Below.refl _ w).alloc (Nat.le_refl _) _
 ·clear hin
  have c0:w.cell? ⟨0,21,none⟩=some (.string ⟨#[97,110,100]⟩):=HR.out 21 (by decide)
  have c1:w.cell? ⟨0,22,none⟩=some (.bool false):=HR.out 22 (by decide)
  have c2:w.cell? ⟨0,23,none⟩=some (.bool false):=HR.out 23 (by decide)
  have c3:w.cell? ⟨0,24,none⟩=some (.int .i64 0):=HR.out 24 (by decide)
  have c4:w.cell? ⟨0,25,none⟩=some (.int .i64 0):=HR.out 25 (by decide)
  have c5:w.cell? ⟨0,26,none⟩=some (.int .i64 2):=HR.out 26 (by decide)
  have c6:w.cell? ⟨0,27,none⟩=some (.int .i64 24):=HR.out 27 (by decide)
  go_enter Tryz.func191,Tryz.ntmps191
  go_wp2
  refine bodyPost_ret (v:=.tuple #[.agg #[.string ⟨#[97,110,100]⟩,.bool false,.bool false,.int .i64 0,.int .i64 0,.int .i64 2,.int .i64 24],.bool true]) (by simp [results,Tryz.results191,go_sem]) rfl ⟨rfl,?_⟩
  exact (Below.refl _ w).alloc (Nat.le_refl _) _
 ·clear hin
  have c0:w.cell? ⟨0,28,none⟩=some (.string ⟨#[119,97,105,116]⟩):=HR.out 28 (by decide)
  have c1:w.cell? ⟨0,29,none⟩=some (.bool false):=HR.out 29 (by decide)
  have c2:w.cell? ⟨0,30,none⟩=some (.bool false):=HR.out 30 (by decide)
  have c3:w.cell? ⟨0,31,none⟩=some (.int .i64 0):=HR.out 31 (by decide)
  have c4:w.cell? ⟨0,32,none⟩=some (.int .i64 9):=HR.out 32 (by decide)
  have c5:w.cell? ⟨0,33,none⟩=some (.int .i64 0):=HR.out 33 (by decide)
  have c6:w.cell? ⟨0,34,none⟩=some (.int .i64 0):=HR.out 34 (by decide)
  go_enter Tryz.func191,Tryz.ntmps191
  go_wp2
  refine bodyPost_ret (v:=.tuple #[.agg #[.string ⟨#[119,97,105,116]⟩,.bool false,.bool false,.int .i64 0,.int .i64 9,.int .i64 0,.int .i64 0],.bool true]) (by simp [results,Tryz.results191,go_sem]) rfl ⟨rfl,?_⟩
  exact (Below.refl _ w).alloc (Nat.le_refl _) _
 ·clear hin
  have c0:w.cell? ⟨0,35,none⟩=some (.string ⟨#[116,105,109,101,114]⟩):=HR.out 35 (by decide)
  have c1:w.cell? ⟨0,36,none⟩=some (.bool false):=HR.out 36 (by decide)
  have c2:w.cell? ⟨0,37,none⟩=some (.bool false):=HR.out 37 (by decide)
  have c3:w.cell? ⟨0,38,none⟩=some (.int .i64 1):=HR.out 38 (by decide)
  have c4:w.cell? ⟨0,39,none⟩=some (.int .i64 99):=HR.out 39 (by decide)
  have c5:w.cell? ⟨0,40,none⟩=some (.int .i64 0):=HR.out 40 (by decide)
  have c6:w.cell? ⟨0,41,none⟩=some (.int .i64 0):=HR.out 41 (by decide)
  go_enter Tryz.func191,Tryz.ntmps191
  go_wp2
  refine bodyPost_ret (v:=.tuple #[.agg #[.string ⟨#[116,105,109,101,114]⟩,.bool false,.bool false,.int .i64 1,.int .i64 99,.int .i64 0,.int .i64 0],.bool true]) (by simp [results,Tryz.results191,go_sem]) rfl ⟨rfl,?_⟩
  exact (Below.refl _ w).alloc (Nat.le_refl _) _
 ·clear hin
  have c0:w.cell? ⟨0,42,none⟩=some (.string ⟨#[115,101,116]⟩):=HR.out 42 (by decide)
  have c1:w.cell? ⟨0,43,none⟩=some (.bool false):=HR.out 43 (by decide)
  have c2:w.cell? ⟨0,44,none⟩=some (.bool true):=HR.out 44 (by decide)
  have c3:w.cell? ⟨0,45,none⟩=some (.int .i64 0):=HR.out 45 (by decide)
  have c4:w.cell? ⟨0,46,none⟩=some (.int .i64 3):=HR.out 46 (by decide)
  have c5:w.cell? ⟨0,47,none⟩=some (.int .i64 0):=HR.out 47 (by decide)
  have c6:w.cell? ⟨0,48,none⟩=some (.int .i64 0):=HR.out 48 (by decide)
  go_enter Tryz.func191,Tryz.ntmps191
  go_wp2
  refine bodyPost_ret (v:=.tuple #[.agg #[.string ⟨#[115,101,116]⟩,.bool false,.bool true,.int .i64 0,.int .i64 3,.int .i64 0,.int .i64 0],.bool true]) (by simp [results,Tryz.results191,go_sem]) rfl ⟨rfl,?_⟩
  exact (Below.refl _ w).alloc (Nat.le_refl _) _
 ·clear hin
  have c0:w.cell? ⟨0,49,none⟩=some (.string ⟨#[103,117,97,114,100]⟩):=HR.out 49 (by decide)
  have c1:w.cell? ⟨0,50,none⟩=some (.bool false):=HR.out 50 (by decide)
  have c2:w.cell? ⟨0,51,none⟩=some (.bool false):=HR.out 51 (by decide)
  have c3:w.cell? ⟨0,52,none⟩=some (.int .i64 1):=HR.out 52 (by decide)
  have c4:w.cell? ⟨0,53,none⟩=some (.int .i64 99):=HR.out 53 (by decide)
  have c5:w.cell? ⟨0,54,none⟩=some (.int .i64 2):=HR.out 54 (by decide)
  have c6:w.cell? ⟨0,55,none⟩=some (.int .i64 2):=HR.out 55 (by decide)
  go_enter Tryz.func191,Tryz.ntmps191
  go_wp2
  refine bodyPost_ret (v:=.tuple #[.agg #[.string ⟨#[103,117,97,114,100]⟩,.bool false,.bool false,.int .i64 1,.int .i64 99,.int .i64 2,.int .i64 2],.bool true]) (by simp [results,Tryz.results191,go_sem]) rfl ⟨rfl,?_⟩
  exact (Below.refl _ w).alloc (Nat.le_refl _) _
end Pf
end Go.Proofs.YtccklgopcjilcaaGreatDoor
/- From a row's list to the cells of the table of rules; a world that holds the table. -/
namespace Go.Proofs.YtccklgopcjilcaaGreatDoor
open Go.ChangeShapes Go.WideShapes Go.ChangeAt Go.RowKit
set_option linter.unusedVariables false
namespace Crd
open Pf (Rul ruleVals)
theorem own:ownKnob Tryz.prog.godebug=none:=by kernel_rfl
theorem laidOut:laidOutB Tryz.prog=true:=by kernel_rfl
theorem gTab:Tryz.prog.globalNamed "loop.example/g00343/impl.stepRules" = some 0:=by kernel_rfl
theorem gTabType:(Tryz.prog.globals[0]?).map (·.type)=some 299:=by kernel_rfl
theorem cellsTA:Tryz.prog.cellsOf 299=56:=by kernel_rfl
theorem cellsTE:Tryz.prog.cellsOf 255=7:=by kernel_rfl
theorem cells9:Tryz.prog.cellsOf 9=1:=by kernel_rfl
theorem cells2:Tryz.prog.cellsOf 2=1:=by kernel_rfl
theorem cells3:Tryz.prog.cellsOf 3=1:=by kernel_rfl
theorem cells4:Tryz.prog.cellsOf 4=1:=by kernel_rfl
set_option maxRecDepth 100000 in
theorem rule {H:Type} {enc:TypeId × Value→H} {w:World} {base:Nat} {sp:Nat→Bool} {held:Bool} {fuel:Nat} {cs:List Value} {l:List UInt8} {b1 b2:Bool} {z3 z4 z5 z6:Int} {p:List MemPlace}
    (h:DataW.trod enc Tryz.prog w base sp held fuel 255 cs=some (.agg [.lit (.string l),.lit (.bool b1),.lit (.bool b2),.lit (.int .i64 z3),.lit (.int .i64 z4),.lit (.int .i64 z5),.lit (.int .i64 z6)],p)):
    cs=[.string ⟨l.toArray⟩,.bool b1,.bool b2,.int .i64 z3,.int .i64 z4,.int .i64 z5,.int .i64 z6]:=by
 obtain ⟨xs,n,rfl,hx,hlen,hxl,hf⟩:=DataW.trod_struct Tryz.underlying255 h
 have h0:=hf 0 _ rfl
 have h1:=hf 1 _ rfl
 have h2:=hf 2 _ rfl
 have h3:=hf 3 _ rfl
 have h4:=hf 4 _ rfl
 have h5:=hf 5 _ rfl
 have h6:=hf 6 _ rfl
 rw [cellsTE] at hlen
 match cs,hlen with
 | [c0,c1,c2,c3,c4,c5,c6],_=>
  match xs,hxl with
  | [x0,x1,x2,x3,x4,x5,x6],_=>
   simp at h0 h1 h2 h3 h4 h5 h6 hx
   obtain ⟨s0,e0,f0,_⟩:=DataW.trod_string Tryz.underlying9 h0
   obtain ⟨d1,e1,f1⟩:=DataW.trod_bool Tryz.underlying4 h1
   obtain ⟨d2,e2,f2⟩:=DataW.trod_bool Tryz.underlying4 h2
   obtain ⟨n3,e3,f3,_⟩:=DataW.trod_int Tryz.underlying2 h3
   obtain ⟨n4,e4,f4,_⟩:=DataW.trod_int Tryz.underlying2 h4
   obtain ⟨n5,e5,f5,_⟩:=DataW.trod_int Tryz.underlying3 h5
   obtain ⟨n6,e6,f6,_⟩:=DataW.trod_int Tryz.underlying3 h6
   subst f0 f1 f2 f3 f4 f5 f6
   rw [cells9] at e0
   rw [cells4] at e1 e2
   rw [cells2] at e3 e4
   rw [cells3] at e5 e6
   simp at e0 e1 e2 e3 e4 e5 e6 hx
   obtain ⟨⟨g0,g1,g2,g3,g4,g5,g6⟩,_⟩:=hx
   subst e0 e1 e2 e3 e4 e5 e6 g1 g2 g3 g4 g5 g6
   rw [g0]
set_option maxRecDepth 100000 in
theorem var_tab {W:World} (h:laidMetH Tryz.prog [("loop.example/g00343/impl.stepRules",Rows.laid_loop_example_g00343_impl_stepRules)] W):∃cs,W.var? Tryz.prog "loop.example/g00343/impl.stepRules" = some cs∧cs.toList=ruleVals:=by
 obtain ⟨ps,⟨g',t',cs,fuel,p,q,hg',ht',hvar,hd,_,_⟩,_⟩:=h
 obtain rfl:=Option.some.inj (gTab.symm.trans hg')
 obtain rfl:=Option.some.inj (gTabType.symm.trans ht')
 refine ⟨cs,hvar,?_⟩
 obtain ⟨xs,m,rfl,hx,hlen,hxl,hf⟩:=DataW.trod_array Tryz.underlying299 hd
 have f0:=hf 0 (by decide)
 have f1:=hf 1 (by decide)
 have f2:=hf 2 (by decide)
 have f3:=hf 3 (by decide)
 have f4:=hf 4 (by decide)
 have f5:=hf 5 (by decide)
 have f6:=hf 6 (by decide)
 have f7:=hf 7 (by decide)
 rw [cellsTE] at f0 f1 f2 f3 f4 f5 f6 f7
 rw [cellsTA] at hlen
 match xs,hxl with
 | [x0,x1,x2,x3,x4,x5,x6,x7],_=>
  obtain ⟨d0,p0⟩:=x0
  obtain ⟨d1,p1⟩:=x1
  obtain ⟨d2,p2⟩:=x2
  obtain ⟨d3,p3⟩:=x3
  obtain ⟨d4,p4⟩:=x4
  obtain ⟨d5,p5⟩:=x5
  obtain ⟨d6,p6⟩:=x6
  obtain ⟨d7,p7⟩:=x7
  simp only [Rows.laid_loop_example_g00343_impl_stepRules,List.map_cons,List.map_nil,Prod.mk.injEq,DataW.agg.injEq,List.cons.injEq,and_true] at hx
  obtain ⟨⟨rfl,rfl,rfl,rfl,rfl,rfl,rfl,rfl⟩,_⟩:=hx
  generalize cs.toList=l at *
  have g0:=rule f0
  have g1:=rule f1
  have g2:=rule f2
  have g3:=rule f3
  have g4:=rule f4
  have g5:=rule f5
  have g6:=rule f6
  have g7:=rule f7
  have cut:∀n,l.drop n=(l.drop n).take 7++l.drop (n+7):=fun n=>by
   have h:=(List.take_append_drop 7 (l.drop n)).symm
   rw [List.drop_drop] at h
   exact h
  have h56:l.drop 56=[]:=List.drop_eq_nil_of_le (by omega)
  have hl:l=(l.drop 0).take 7++((l.drop 7).take 7++((l.drop 14).take 7++((l.drop 21).take 7++((l.drop 28).take 7++((l.drop 35).take 7++((l.drop 42).take 7++((l.drop 49).take 7))))))):=(cut 0).trans (congrArg (fun x=>(l.drop 0).take 7++x) ((cut 7).trans (congrArg (fun x=>(l.drop 7).take 7++x) ((cut 14).trans (congrArg (fun x=>(l.drop 14).take 7++x) ((cut 21).trans (congrArg (fun x=>(l.drop 21).take 7++x) ((cut 28).trans (congrArg (fun x=>(l.drop 28).take 7++x) ((cut 35).trans (congrArg (fun x=>(l.drop 35).take 7++x) ((cut 42).trans (congrArg (fun x=>(l.drop 42).take 7++x) ((cut 49).trans (by rw [h56,List.append_nil])))))))))))))))
  rw [hl]
  simp only [Nat.reduceMul] at g0 g1 g2 g3 g4 g5 g6 g7
  rw [g0,g1,g2,g3,g4,g5,g6,g7]
  rfl
set_option maxRecDepth 100000 in
theorem rul_of {W:World} (h:laidMetH Tryz.prog [("loop.example/g00343/impl.stepRules",Rows.laid_loop_example_g00343_impl_stepRules)] W):Rul W:=by
 obtain ⟨cs,hv,hcs⟩:=var_tab h
 intro i hi
 rw [World.var?_cell gTab hv i,←hcs]
 simp
def laidHeap (h:Array Obj):Array Obj:=h.modify 0 fun
 | .cells _ t frozen=>.cells ruleVals.toArray t frozen
 | o=>o
def laidOver (w:World):World:={ w with heap:=laidHeap w.heap }
end Crd
end Go.Proofs.YtccklgopcjilcaaGreatDoor
/- The law's comparisons of steps; an argument that is a list of steps, as it lies in memory. -/
namespace Go.Proofs.YtccklgopcjilcaaGreatDoor
open Go.RowKit Go.Deep
set_option linter.unusedVariables false
namespace St
open Ex (hid)
open Nd (NodeD cellsI64 lt_of_cell)
theorem str_ne (s:ByteArray):(s.toList != s.toList)=false:=by simp
set_option maxRecDepth 100000 in
set_option maxHeartbeats 1000000 in
theorem eqOne (B1 B2:Nat) (x:StepD) (c1 e1 c2 e2:Value) (w:World) (hl:Small1 1048576 x) (h1:Nd.At w B1 c1 x.cond) (h2:Nd.At w B1 e1 x.expr) (h3:Nd.At w B2 c2 x.cond) (h4:Nd.At w B2 e2 x.expr):
    Calls Tryz.prog 147 #[.agg #[.int .i64 x.kind,.int .i64 x.parent,.string x.name,.int .i64 x.arg,c1,e1],.agg #[.int .i64 x.kind,.int .i64 x.parent,.string x.name,.int .i64 x.arg,c2,e2]] w fun e w'=>e=.returned (.bool true)∧Below w.heap.size w w':=by
 obtain ⟨a1,k1,rfl⟩:=h1.slice
 obtain ⟨a2,k2,rfl⟩:=h2.slice
 obtain ⟨a3,k3,rfl⟩:=h3.slice
 obtain ⟨a4,k4,rfl⟩:=h4.slice
 have hs1:=hl.2.1
 have hs2:=hl.2.2
 have hB:Below w.heap.size w ((w.alloc (.cells #[.int .i64 x.kind,.int .i64 x.parent,.string x.name,.int .i64 x.arg,.slice a1 x.cond.length k1,.slice a2 x.expr.length k2] 164)).alloc (.cells #[.int .i64 x.kind,.int .i64 x.parent,.string x.name,.int .i64 x.arg,.slice a3 x.cond.length k3,.slice a4 x.expr.length k4] 164)):=((Below.refl _ w).alloc (Nat.le_refl _) _).alloc (by simp) _
 have H1:=hid (h1.below hB)
 have H2:=hid (h2.below hB)
 have H3:=hid (h3.below hB)
 have H4:=hid (h4.below hB)
 have HB:=hid hB
 clear h1 h2 h3 h4 hB hl
 have g0:=str_ne x.name
 have g1:(x.kind != x.kind)=false:=by simp
 have g2:(x.parent != x.parent)=false:=by simp
 have g3:(x.arg != x.arg)=false:=by simp
 go_enter Tryz.func147,Tryz.ntmps147
 go_wp2_with fail
 refine (Nd.eqS B1 B2 x.cond _ _ _ (by omega) H1.out H3.out).mono ?_
 rintro e w1 ⟨rfl,hb1⟩
 have r1:=hb1.size
 simp only [World.size_alloc] at r1
 have d1:=(hb1.cell (p:=⟨w.heap.size,5,none⟩) (by simp;omega)).trans (show _=some (.slice a2 x.expr.length k2) by go_simp)
 have d2:=(hb1.cell (p:=⟨w.heap.size+1,5,none⟩) (by simp)).trans (show _=some (.slice a4 x.expr.length k4) by go_simp)
 have l1:w.heap.size<w1.heap.size:=by omega
 have l2:w.heap.size+1<w1.heap.size:=by omega
 have HB1:=hid (HB.out.trans (hb1.mono HB.out.size))
 go_wp2_with fail
 refine (Nd.eqS B1 B2 x.expr _ _ _ (by omega) (H2.out.below hb1) (H4.out.below hb1)).mono ?_
 rintro e w2 ⟨rfl,hb2⟩
 have HB2:=hid (HB1.out.trans (hb2.mono HB1.out.size))
 go_wp2
 go_ret
 exact ⟨rfl,HB2.out⟩
set_option maxRecDepth 100000 in
set_option maxHeartbeats 2000000 in
theorem eqS (B1 B2:Nat) (ss:List StepD) (v1 v2:Value) (w:World) (hl:Small 1048576 ss) (h1:At w B1 v1 ss) (h2:At w B2 v2 ss):
    Calls Tryz.prog 100 #[v1,v2] w fun e w'=>e=.returned (.bool true)∧Below w.heap.size w w':=by
 obtain ⟨a1,c1,rfl⟩:=h1.slice
 obtain ⟨a2,c2,rfl⟩:=h2.slice
 have H1:=hid h1
 have H2:=hid h2
 have HL:=hid hl
 have hlen:=hl.1
 clear h1 h2 hl
 have hb:((ss.length:Int) != (ss.length:Int))=false:=by simp
 go_enter Tryz.func100,Tryz.ntmps100
 go_wp2
 go_loopw [5] (fun i wr=>∃k:Nat,i=.int .i64 k∧k≤ss.length∧Below w.heap.size w wr) (fun i _=>ss.length - (intOf i).toNat)
 case atStart=>exact ⟨0,rfl,Nat.zero_le _,Below.refl _ _⟩
 case round=>
  obtain ⟨k,rfl,hk,hbel⟩:=hrel
  by_cases hlt:k<ss.length
  ·obtain ⟨g1,o1,c1',e1',rfl,hg1,p0,p1,p2,p3,p4,p5,hc1,he1⟩:=(H1.out.below hbel).at hlt
   obtain ⟨g2,o2,c2',e2',rfl,hg2,u0,u1,u2,u3,u4,u5,hc2,he2⟩:=(H2.out.below hbel).at hlt
   have hsm:=HL.out.at hlt
   have HE:Hid (∀w1:World,Below wr.heap.size wr w1→Calls Tryz.prog 147 #[.agg #[.int .i64 ss[k].kind,.int .i64 ss[k].parent,.string ss[k].name,.int .i64 ss[k].arg,c1',e1'],.agg #[.int .i64 ss[k].kind,.int .i64 ss[k].parent,.string ss[k].name,.int .i64 ss[k].arg,c2',e2']] w1 fun e w'=>e=.returned (.bool true)∧Below w1.heap.size w1 w'):=fun w1 h=>eqOne B1 B2 ss[k] c1' e1' c2' e2' w1 hsm (hc1.below h) (he1.below h) (hc2.below h) (he2.below h)
   obtain ⟨a3,c3,rfl⟩:=hc1.slice
   obtain ⟨a4,c4,rfl⟩:=he1.slice
   obtain ⟨a5,c5,rfl⟩:=hc2.slice
   obtain ⟨a6,c6,rfl⟩:=he2.slice
   clear hc1 he1 hc2 he2 hsm
   have t1:(k:Int)<(ss.length:Int):=by omega
   go_wp2
   go_region_with ((go_at_call 147;refine (HE.out _ ?_).mono ?_;exact (Below.refl wr.heap.size wr).drew;rintro e w1 ⟨rfl,hb1⟩;have hbb:Below wr.heap.size wr w1:=((Below.refl wr.heap.size wr).drew).trans hb1))
   all_goals go_wp2
   all_goals exact ⟨⟨k+1,by simp,by omega,hbel.trans (hbb.mono hbel.size)⟩,by simp [intOf];omega⟩
  ·go_wp2
   go_ret
   exact ⟨rfl,hbel⟩
theorem cellsStep:Tryz.prog.cellsOf 204=6:=by kernel_rfl
theorem cellsStr:Tryz.prog.cellsOf 9=1:=by kernel_rfl
theorem cellsNs:Tryz.prog.cellsOf 202=1:=by kernel_rfl
section
variable {H : Type} {enc : TypeId × Value → H} {w : World} {base : Nat} {spare : Nat → Bool} {held : Bool} {fuel : Nat}
set_option maxRecDepth 100000 in
theorem open_one {cs:List Value} {x:DataW H × List MemPlace} (h:DataW.trod enc Tryz.prog w base spare held fuel 204 cs=some x):
    ∃(s:StepD) (vc ve:Value),cs=[.int .i64 s.kind,.int .i64 s.parent,.string s.name,.int .i64 s.arg,vc,ve]∧Nd.At w 0 vc s.cond∧Nd.At w 0 ve s.expr∧s.name.size≤maxLen∧s.cond.length≤maxLen∧s.expr.length≤maxLen:=by
 obtain ⟨xs,n,rfl,_,hlen,hxl,hf⟩:=DataW.trod_struct Tryz.underlying204 h
 have h0:=hf 0 _ rfl
 have h1:=hf 1 _ rfl
 have h2:=hf 2 _ rfl
 have h3:=hf 3 _ rfl
 have h4:=hf 4 _ rfl
 have h5:=hf 5 _ rfl
 rw [cellsStep] at hlen
 match cs,hlen with
 | [a,b,c,d,e,f],_=>
  match xs,hxl with
  | [x0,x1,x2,x3,x4,x5],_=>
   simp [cellsStr,cellsI64,cellsNs] at h0 h1 h2 h3 h4 h5
   obtain ⟨n0,e0,_,_⟩:=DataW.trod_int Tryz.underlying2 h0
   obtain ⟨n1,e1,_,_⟩:=DataW.trod_int Tryz.underlying2 h1
   obtain ⟨s2,e2,_,b2⟩:=DataW.trod_string Tryz.underlying9 h2
   obtain ⟨n3,e3,_,_⟩:=DataW.trod_int Tryz.underlying2 h3
   obtain ⟨cs4,ha4,hl4⟩:=Nd.open_all h4
   obtain ⟨cs5,ha5,hl5⟩:=Nd.open_all h5
   simp at e0 e1 e2 e3
   subst e0 e1 e2 e3
   exact ⟨⟨n0,n1,s2,n3,cs4,cs5⟩,e,f,rfl,ha4,ha5,b2,hl4,hl5⟩
set_option maxRecDepth 100000 in
theorem open_all {v:Value} {x:DataW H × List MemPlace} (h:DataW.trod enc Tryz.prog w base spare held fuel 82 [v]=some x):
    ∃ss,At w 0 v ss∧Ok ss∧ss.length≤maxLen:=by
 rcases open_slice Tryz.underlying82 h with ⟨hcs,_⟩ | ⟨a,len,cap,m,n,D,Pl,hcs,hb,hl,hcm,hm,_,hx⟩
 ·obtain rfl:v=.slice none 0 0:=by simpa using hcs
  exact ⟨[],⟨none,0,rfl,Nat.le_refl _,Nat.zero_le _,.inl rfl⟩,fun _ h=>by (cases h),Nat.zero_le _⟩
 ·obtain rfl:v=.slice (some a) len cap:=by simpa using hcs
  have hlm:len≤m:=by rw [hm];split <;> omega
  rw [cellsStep] at hx
  have each:∀i,i<len→∃q:StepD,w.cell? (a.add (i*6))=some (.int .i64 q.kind)∧w.cell? (a.add (i*6+1))=some (.int .i64 q.parent)∧w.cell? (a.add (i*6+2))=some (.string q.name)∧w.cell? (a.add (i*6+3))=some (.int .i64 q.arg)∧(∃vc ve,w.cell? (a.add (i*6+4))=some vc∧w.cell? (a.add (i*6+5))=some ve∧Nd.At w 0 vc q.cond∧Nd.At w 0 ve q.expr)∧q.name.size≤maxLen∧q.cond.length≤maxLen∧q.expr.length≤maxLen:=fun i hi=>by
   obtain ⟨cs',c0,d0⟩:=hx i (by omega)
   obtain ⟨e,vc,ve,rfl,g1,g2,g3⟩:=open_one d0
   obtain ⟨_,_,hc⟩:=World.cells?_some c0
   have k0:=hc 0 (by omega)
   have k1:=hc 1 (by omega)
   have k2:=hc 2 (by omega)
   have k3:=hc 3 (by omega)
   have k4:=hc 4 (by omega)
   have k5:=hc 5 (by omega)
   rw [Nd.add_add] at k0 k1 k2 k3 k4 k5
   exact ⟨e,k0,k1,k2,k3,⟨vc,ve,k4,k5,g1,g2⟩,g3⟩
  haveI:Inhabited StepD:=⟨⟨0,0,ByteArray.empty,0,[],[]⟩⟩
  obtain ⟨F,hF⟩:=choose_lt each
  refine ⟨(List.range len).map F,?_,?_,by simp;omega⟩
  ·refine ⟨some a,cap,by simp,by simpa using hl,hcm,?_⟩
   rcases Nat.eq_zero_or_pos len with h0 | h0
   ·exact .inl (by simp [h0])
   ·right
    obtain ⟨b,off,spot⟩:=a
    have hspot:spot=none:=by simpa [Addr.add] using World.cell?_spot (hF 0 h0).1
    subst hspot
    refine ⟨b,off,rfl,Nat.zero_le _,lt_of_cell (hF 0 h0).1,fun i hi=>?_⟩
    have hi':i<len:=by simpa using hi
    have h2:=hF i hi'
    simp only [List.getElem_map,List.getElem_range]
    simp only [Go.WideShapes.add_plain,←Nat.add_assoc] at h2 ⊢
    exact ⟨h2.1,h2.2.1,h2.2.2.1,h2.2.2.2.1,h2.2.2.2.2.1⟩
  ·intro q hq
   obtain ⟨i,hi,rfl⟩:=List.mem_map.1 hq
   have h2:=hF i (by simpa using hi)
   exact h2.2.2.2.2.2
end
end St
end Go.Proofs.YtccklgopcjilcaaGreatDoor
/- The law's measure of a row of steps, with all that there is in it. -/
namespace Go.Proofs.YtccklgopcjilcaaGreatDoor
open Go.RowKit Go.Deep
set_option linter.unusedVariables false
namespace St
open Ex (hid)
open Nd (NodeD)
def wt1 (s:StepD):Nat:=s.name.size+s.cond.length+s.expr.length
def wt:List StepD→Nat
 | []=>0
 | s :: ss=>1+wt1 s+wt ss
theorem wt_take {ss:List StepD} {k:Nat} (h:k<ss.length):wt (ss.take (k+1))=wt (ss.take k)+1+wt1 ss[k]:=by
 induction ss generalizing k with
 | nil=>simp at h
 | cons s ss ih=>
  cases k with
  | zero=>simp [wt]
  | succ k=>
   have:=ih (k:=k) (by simpa using h)
   simp only [List.take_succ_cons,wt,List.getElem_cons_succ] at this ⊢
   omega
set_option maxRecDepth 100000 in
set_option maxHeartbeats 1000000 in
theorem szN2 (xs:List NodeD) (a:Option Addr) (cap:Nat) (n:Int) (w:World) (h0:0≤n) (hn:n≤1048576) (hk:xs.length≤maxLen):
    Calls Tryz.prog 177 #[.slice a xs.length cap,.int .i64 n] w fun e w'=>(∃r:Int,e=.returned (.int .i64 r)∧-1≤r∧r≤n∧(0≤r→r+(xs.length:Int)≤n))∧w'=w:=by
 unfold maxLen at hk
 by_cases h:n - (xs.length:Int)<0
 ·go_enter Tryz.func177,Tryz.ntmps177
  go_wp2
  go_ret
  exact ⟨⟨-1,rfl,by omega,by omega,by omega⟩,rfl⟩
 ·go_enter Tryz.func177,Tryz.ntmps177
  go_wp2
  go_ret
  exact ⟨⟨n - xs.length,rfl,by omega,by omega,by omega⟩,rfl⟩
set_option maxRecDepth 100000 in
set_option maxHeartbeats 1000000 in
theorem szOne2 (B:Nat) (x:StepD) (vc ve:Value) (n:Int) (w:World) (h0:0≤n) (hn:n≤1048576) (h1:x.name.size≤maxLen) (h2:x.cond.length≤maxLen) (h3:x.expr.length≤maxLen) (hc:Nd.At w B vc x.cond) (he:Nd.At w B ve x.expr):
    Calls Tryz.prog 140 #[.agg #[.int .i64 x.kind,.int .i64 x.parent,.string x.name,.int .i64 x.arg,vc,ve],.int .i64 n] w fun e w'=>(∃r:Int,e=.returned (.int .i64 r)∧-1≤r∧r≤n∧(0≤r→Small1 n x∧r+(wt1 x:Int)≤n))∧Below w.heap.size w w':=by
 unfold maxLen at h1
 obtain ⟨a,cap,rfl⟩:=hc.slice
 obtain ⟨a2,cap2,rfl⟩:=he.slice
 have HC:=hid hc
 have HE:=hid he
 clear hc he
 have hB:Below w.heap.size w (w.alloc (.cells #[.int .i64 x.kind,.int .i64 x.parent,.string x.name,.int .i64 x.arg,.slice a x.cond.length cap,.slice a2 x.expr.length cap2] 204)):=(Below.refl _ w).alloc (Nat.le_refl _) _
 have HC2:=hid (HC.out.below hB)
 have HE2:=hid (HE.out.below hB)
 clear HC HE
 by_cases q1:n - (x.name.size:Int)<0
 ·go_enter Tryz.func140,Tryz.ntmps140
  go_wp2
  go_ret
  exact ⟨⟨-1,rfl,by omega,by omega,by omega⟩,hB⟩
 ·go_enter Tryz.func140,Tryz.ntmps140
  go_wp2_with fail
  refine (szN2 x.cond _ _ (n - x.name.size) _ (by omega) (by omega) h2).mono ?_
  rintro e w1 ⟨⟨r,rfl,hr1,hr2,hr3⟩,rfl⟩
  by_cases hr:r<0
  ·go_wp2
   go_ret
   exact ⟨⟨-1,rfl,by omega,by omega,by omega⟩,hB⟩
  ·have hr3':=hr3 (by omega)
   clear hr3
   go_wp2_with fail
   refine (szN2 x.expr _ _ r _ (by omega) (by omega) h3).mono ?_
   rintro e w1 ⟨⟨r2,rfl,hr4,hr5,hr6⟩,rfl⟩
   by_cases hr':r2<0
   ·go_wp2
    go_ret
    exact ⟨⟨-1,rfl,by omega,by omega,by omega⟩,hB⟩
   ·have hr6':=hr6 (by omega)
    clear hr6
    go_wp2
    go_ret
    exact ⟨⟨r2,rfl,by omega,by omega,fun _=>⟨⟨by omega,by omega,by omega⟩,by unfold wt1;omega⟩⟩,hB⟩
set_option maxRecDepth 100000 in
set_option maxHeartbeats 1000000 in
theorem szS2 (B:Nat) (ss:List StepD) (v:Value) (n:Int) (w:World) (h0:0≤n) (hn:n≤1048576) (hl:ss.length≤maxLen) (hk:Ok ss) (ha:At w B v ss):
    Calls Tryz.prog 95 #[v,.int .i64 n] w fun e w'=>(∃r:Int,e=.returned (.int .i64 r)∧-1≤r∧r≤n∧(0≤r→Small n ss∧r+(wt ss:Int)≤n))∧Below w.heap.size w w':=by
 obtain ⟨a,cap,rfl⟩:=ha.slice
 have HA:=hid ha
 have HK:=hid hk
 clear ha hk
 unfold maxLen at hl
 by_cases q1:n - (ss.length:Int)<0
 ·go_enter Tryz.func95,Tryz.ntmps95
  go_wp2
  go_ret
  exact ⟨⟨-1,rfl,by omega,by omega,by omega⟩,Below.refl _ _⟩
 ·go_enter Tryz.func95,Tryz.ntmps95
  go_wp2
  go_loopw [1,5] (fun m i wr=>∃(k:Nat) (z:Int),i=.int .i64 k∧m=.int .i64 z∧0≤z∧z≤n∧k≤ss.length∧z+(wt (ss.take k):Int)≤n - (ss.length:Int)+(k:Int)∧Hid (∀j (h:j<ss.length),j<k→Small1 n ss[j])∧Below w.heap.size w wr) (fun _ i _=>ss.length - (intOf i).toNat)
  case atStart=>exact ⟨0,_,rfl,rfl,by omega,by omega,Nat.zero_le _,by simp [wt],fun j _ h=>by omega,Below.refl _ _⟩
  case round=>
   obtain ⟨k,z,rfl,rfl,hz0,hzn,hkl,hzw,HJ,hbel⟩:=hrel
   by_cases hlt:k<ss.length
   ·obtain ⟨g,o,vc,ve,rfl,hg,c0,c1,c2,c3,c4,c5,hvc,hve⟩:=(HA.out.below hbel).at hlt
    obtain ⟨a2,cap2,rfl⟩:=hvc.slice
    obtain ⟨a3,cap3,rfl⟩:=hve.slice
    have HV:=hid hvc
    have HE:=hid hve
    clear hvc hve
    have hke:=HK.out ss[k] (List.getElem_mem hlt)
    have hke1:=hke.1
    have hke2:=hke.2.1
    have hke3:=hke.2.2
    clear hke
    have q1:(k:Int)<(ss.length:Int):=by omega
    go_wp2_with fail
    refine (szOne2 B ss[k] _ _ z _ hz0 (by omega) hke1 hke2 hke3 HV.out HE.out).mono ?_
    rintro e w1 ⟨⟨r,rfl,hr1,hr2,hr3⟩,hb1⟩
    have hB:=hbel.trans (hb1.mono hbel.size)
    by_cases hr:r<0
    ·go_wp2
     go_ret
     exact ⟨⟨-1,rfl,by omega,by omega,by omega⟩,hB⟩
    ·have hr4:=hr3 (by omega)
     have hr5:=hr4.2
     have hr6:=wt_take hlt
     have HJ2:Hid (∀j (h:j<ss.length),j<k+1→Small1 n ss[j]):=hid (fun j h hj=>by
      by_cases e:j=k
      ·subst e
       exact hr4.1.mono hzn
      ·exact HJ.out j h (by omega))
     have hzw2:r+(wt (ss.take (k+1)):Int)≤n - (ss.length:Int)+((k+1:Nat):Int):=by omega
     clear hr3 hr4 hr5 hr6
     go_wp2
     exact ⟨⟨k+1,r,by simp,rfl,by omega,by omega,by omega,hzw2,HJ2,hB⟩,by simp [intOf];omega⟩
   ·have HJ2:Hid (Small n ss):=hid ⟨by omega,fun x hx=>by
     obtain ⟨j,hj,rfl⟩:=List.getElem_of_mem hx
     exact HJ.out j hj (by omega)⟩
    rw [List.take_of_length_le (by omega)] at hzw
    go_wp2
    go_ret
    exact ⟨⟨z,rfl,by omega,by omega,fun _=>⟨HJ2.out,by omega⟩⟩,hbel⟩
end St
end Go.Proofs.YtccklgopcjilcaaGreatDoor
