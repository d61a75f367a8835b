/- Laid together: EgM, DmM, KcA, KcB, ImV, KfI. -/
import Derived.Test.YtccklgopcjilcaaGreatDoorJCT14
import Derived.Test.YtccklgopcjilcaaGreatDoorJCT23
import Derived.Test.YtccklgopcjilcaaGreatDoorJCT15
import Derived.Test.YtccklgopcjilcaaGreatDoorJCT22
import Derived.Laws.IdiomCopy
import Derived.Deep.MidRow
import Derived.Deep.Upon
import Derived.Test.YtccklgopcjilcaaGreatDoorJCT2
/- The fault of an engine, plainly. -/
namespace Go.Proofs.YtccklgopcjilcaaGreatDoor
open Go.RowKit Go.Deep
set_option linter.unusedVariables false
namespace Eg
open St (StepD)
open Ei (InstD)
open En (EngD)
open Kc (chartC)
open Pf (pFault)
open Ex (inR)
def firstNZ {α:Type} (f:α→Int):List α→Int
 | []=>0
 | a :: l=>if f a≠0 then f a else firstNZ f l
theorem nz_step {α:Type} {f:α→Int} {l:List α} {k:Nat} (h:k<l.length):firstNZ f (l.drop k)=if f l[k]≠0 then f l[k] else firstNZ f (l.drop (k+1)):=by
 rw [List.drop_eq_getElem_cons h];rfl
theorem nz_bad {α:Type} {f:α→Int} {l:List α} {k:Nat} (h:k<l.length) (h1:f l[k]≠0):firstNZ f (l.drop k)=f l[k]:=by rw [nz_step h,if_pos h1]
theorem nz_next {α:Type} {f:α→Int} {l:List α} {k:Nat} (h:k<l.length) (h1:f l[k]=0):firstNZ f (l.drop k)=firstNZ f (l.drop (k+1)):=by rw [nz_step h,if_neg (by simp [h1])]
theorem nz_end {α:Type} {f:α→Int} {l:List α} {k:Nat} (h:l.length≤k):firstNZ f (l.drop k)=0:=by rw [List.drop_eq_nil_of_le h];rfl
theorem nz_all {α:Type} {f:α→Int}:∀ {l:List α},firstNZ f l=0→∀a∈l,f a=0
 | [],_,a,h=>by cases h
 | b :: l,h,a,ha=>by
  unfold firstNZ at h
  by_cases hb:f b=0
  ·rw [if_neg (by simp [hb])] at h
   rcases List.mem_cons.1 ha with rfl | h2
   ·exact hb
   ·exact nz_all h a h2
  ·rw [if_pos hb] at h;exact absurd h hb
def procsC (ps:List (List StepD)):Int:=if ps.length<1∨3<ps.length then 2 else firstNZ pFault ps
def stepsD (e:EngD) (p:Int):List StepD:=e.procs[p.toNat]?.getD []
theorem stepsD_eq {e:EngD} {p:Int} (h:p.toNat<e.procs.length):stepsD e p=e.procs[p.toNat]:=by unfold stepsD;rw [List.getElem?_eq_getElem h,Option.getD_some]
def hasP (e:EngD) (p:Int):Bool:=inR p 0 ((e.procs.length:Int) - 1)
theorem hasP_in {e:EngD} {p:Int} (h:hasP e p=true):0≤p∧p.toNat<e.procs.length∧p<(e.procs.length:Int):=by
 unfold hasP inR at h;simp at h;omega
def instC (e:EngD) (i:InstD):Int:=
 if hasP e i.proc=true then (if chartC (stepsD e i.proc) i.chart≠0 then chartC (stepsD e i.proc) i.chart else if i.chart.now=e.now then 0 else 9) else 3
theorem i_range {e:EngD} {i:InstD} (h:hasP e i.proc=false):instC e i=3:=by unfold instC;rw [if_neg (by simp [h])]
theorem of_i {e:EngD} {i:InstD} (h:instC e i=0):hasP e i.proc=true∧chartC (stepsD e i.proc) i.chart=0∧i.chart.now=e.now:=by
 unfold instC at h
 by_cases h1:hasP e i.proc=true
 ·rw [if_pos h1] at h
  by_cases h2:chartC (stepsD e i.proc) i.chart=0
  ·rw [if_neg (by simp [h2])] at h
   by_cases h3:i.chart.now=e.now
   ·exact ⟨h1,h2,h3⟩
   ·rw [if_neg h3] at h;omega
  ·rw [if_pos h2] at h;exact absurd h h2
 ·rw [if_neg h1] at h;omega
def engC (e:EngD):Int:=if 6<e.insts.length then 2 else if procsC e.procs≠0 then procsC e.procs else if inR e.now 0 1000000=true then firstNZ (instC e) e.insts else 3
theorem p_many {ps:List (List StepD)} (h:ps.length<1∨3<ps.length):procsC ps=2:=by unfold procsC;rw [if_pos h]
theorem p_few {ps:List (List StepD)} (h:¬(ps.length<1∨3<ps.length)):procsC ps=firstNZ pFault ps:=by unfold procsC;rw [if_neg h]
theorem e_many {e:EngD} (h:e.procs.length<1∨3<e.procs.length∨6<e.insts.length):engC e=2:=by
 unfold engC
 by_cases h1:6<e.insts.length
 ·rw [if_pos h1]
 ·rw [if_neg h1,p_many (by omega),if_pos (by omega)]
theorem e_proc {e:EngD} (h:¬6<e.insts.length) (h2:procsC e.procs≠0):engC e=procsC e.procs:=by unfold engC;rw [if_neg h,if_pos h2]
theorem e_now {e:EngD} (h:¬6<e.insts.length) (h2:procsC e.procs=0) (h3:inR e.now 0 1000000=false):engC e=3:=by unfold engC;rw [if_neg h,if_neg (by simp [h2]),if_neg (by simp [h3])]
theorem e_inst {e:EngD} (h:¬6<e.insts.length) (h2:procsC e.procs=0) (h3:inR e.now 0 1000000=true):engC e=firstNZ (instC e) e.insts:=by unfold engC;rw [if_neg h,if_neg (by simp [h2]),if_pos h3]
theorem of_e {e:EngD} (h:engC e=0):e.insts.length≤6∧(1≤e.procs.length∧e.procs.length≤3)∧firstNZ pFault e.procs=0∧inR e.now 0 1000000=true∧firstNZ (instC e) e.insts=0:=by
 by_cases h1:6<e.insts.length
 ·rw [e_many (by omega)] at h;omega
 ·by_cases h2:procsC e.procs=0
  ·by_cases h4:e.procs.length<1∨3<e.procs.length
   ·rw [p_many h4] at h2;omega
   ·cases h3:inR e.now 0 1000000 with
    | false=>rw [e_now h1 h2 h3] at h;omega
    | true=>rw [e_inst h1 h2 h3] at h;rw [p_few h4] at h2;exact ⟨by omega,by omega,h2,rfl,h⟩
  ·rw [e_proc h1 h2] at h;exact absurd h h2
end Eg
end Go.Proofs.YtccklgopcjilcaaGreatDoor
/- The claims of a desk, plainly: which task is open, who is ahead, the fault of a claim and of a desk. -/
namespace Go.Proofs.YtccklgopcjilcaaGreatDoor
open Go.RowKit Go.Deep
set_option linter.unusedVariables false
namespace Dk
open St (StepD)
open Ei (InstD)
open En (EngD)
open Cl (ClD)
open Eg (engC stepsD instC firstNZ nz_bad nz_next nz_end nz_all hasP of_e of_i hasP_in stepsD_eq)
open Kc (chartC fA fA_eq of_c of_num)
open Pf (PJ PJ_eq)
open Ex (inR)
def hasI (e:EngD) (i:Int):Bool:=inR i 0 ((e.insts.length:Int) - 1)
theorem hasI_in {e:EngD} {i:Int} (h:hasI e i=true):0≤i∧i.toNat<e.insts.length∧i<(e.insts.length:Int):=by
 unfold hasI inR at h;simp at h;omega
def instD (e:EngD) (i:Nat):InstD:=e.insts[i]?.getD ⟨0,0,0,[],[],[]⟩
theorem instD_eq {e:EngD} {i:Nat} (h:i<e.insts.length):instD e i=e.insts[i]:=by unfold instD;rw [List.getElem?_eq_getElem h,Option.getD_some]
def openP (ss:List StepD) (A:Nat→Int) (s:Int):Bool:=inR s 0 ((ss.length:Int) - 1)&&((PJ ss s.toNat).kind==2&&A s.toNat==1)
def openT (e:EngD) (i s:Int):Bool:=openP (stepsD e (instD e i.toNat).proc) (fA (instD e i.toNat).chart) s
theorem open_out {ss:List StepD} {A:Nat→Int} {s:Int} (h:inR s 0 ((ss.length:Int) - 1)=false):openP ss A s=false:=by unfold openP;rw [h,Bool.false_and]
theorem open_in {ss:List StepD} {A:Nat→Int} {s:Int} (h:inR s 0 ((ss.length:Int) - 1)=true):openP ss A s=((PJ ss s.toNat).kind==2&&A s.toNat==1):=by unfold openP;rw [h,Bool.true_and]
theorem open_lt {e:EngD} {i s:Int} (h:openT e i s=true):0≤s∧s<((stepsD e (instD e i.toNat).proc).length:Int):=by
 unfold openT openP inR at h;simp at h;omega
theorem inst_ok {e:EngD} (h:engC e=0) {i:Nat} (hi:i<e.insts.length):hasP e e.insts[i].proc=true∧(e.insts[i].chart.marks.length=(stepsD e e.insts[i].proc).length∧Pf.pFault (stepsD e e.insts[i].proc)=0):=by
 obtain ⟨_,_,_,_,h1⟩:=of_e h
 obtain ⟨h2,h3,_⟩:=of_i (nz_all h1 _ (List.getElem_mem hi))
 obtain ⟨h4,h5,_⟩:=of_c h3
 exact ⟨h2,(of_num h5).2.1,h4⟩
def CJ (cs:List ClD) (k:Nat):ClD:=cs[k]?.getD ⟨0,0,0⟩
theorem CJ_eq {cs:List ClD} {k:Nat} (h:k<cs.length):CJ cs k=cs[k]:=by unfold CJ;rw [List.getElem?_eq_getElem h,Option.getD_some]
def aheadC (a b:ClD):Bool:=decide (a.inst<b.inst) || (decide (a.inst=b.inst)&&decide (a.step<b.step))
def isU (u:Int):Bool:=inR u 1 9
def oneC (e:EngD) (c:ClD):Int:=if (hasI e c.inst&&isU c.user)=true then (if openT e c.inst c.step=true then 0 else 4) else 3
def claimC (e:EngD) (cs:List ClD) (k:Nat):Int:=if oneC e (CJ cs k)≠0 then oneC e (CJ cs k) else if 0<k∧aheadC (CJ cs (k - 1)) (CJ cs k)=false then 1 else 0
def claimsC (e:EngD) (cs:List ClD):Int:=firstNZ (claimC e cs) (List.range cs.length)
def deskC (d:DeskD):Int:=if engC d.eng≠0 then engC d.eng else if 60<d.claims.length then 2 else claimsC d.eng d.claims
theorem one_range {e:EngD} {c:ClD} (h:(hasI e c.inst&&isU c.user)=false):oneC e c=3:=by unfold oneC;rw [if_neg (by simp [h])]
theorem one_none {e:EngD} {c:ClD} (h:(hasI e c.inst&&isU c.user)=true) (h2:openT e c.inst c.step=false):oneC e c=4:=by unfold oneC;rw [if_pos h,if_neg (by simp [h2])]
theorem one_ok {e:EngD} {c:ClD} (h:(hasI e c.inst&&isU c.user)=true) (h2:openT e c.inst c.step=true):oneC e c=0:=by unfold oneC;rw [if_pos h,if_pos h2]
theorem of_one {e:EngD} {c:ClD} (h:oneC e c=0):hasI e c.inst=true∧isU c.user=true∧openT e c.inst c.step=true:=by
 unfold oneC at h
 by_cases h1:(hasI e c.inst&&isU c.user)=true
 ·rw [if_pos h1] at h
  rw [Bool.and_eq_true] at h1
  by_cases h2:openT e c.inst c.step=true
  ·exact ⟨h1.1,h1.2,h2⟩
  ·rw [if_neg h2] at h;cases h
 ·rw [if_neg h1] at h;cases h
theorem c_one {e:EngD} {cs:List ClD} {k:Nat} (h:oneC e (CJ cs k)≠0):claimC e cs k=oneC e (CJ cs k):=by unfold claimC;rw [if_pos h]
theorem c_form {e:EngD} {cs:List ClD} {k:Nat} (h:oneC e (CJ cs k)=0) (h2:0<k) (h3:aheadC (CJ cs (k - 1)) (CJ cs k)=false):claimC e cs k=1:=by unfold claimC;rw [if_neg (by simp [h]),if_pos ⟨h2,h3⟩]
theorem c_first {e:EngD} {cs:List ClD} {k:Nat} (h:oneC e (CJ cs k)=0) (h2:¬0<k):claimC e cs k=0:=by unfold claimC;rw [if_neg (by simp [h]),if_neg (fun h=>h2 h.1)]
theorem c_ok {e:EngD} {cs:List ClD} {k:Nat} (h:oneC e (CJ cs k)=0) (h3:aheadC (CJ cs (k - 1)) (CJ cs k)=true):claimC e cs k=0:=by unfold claimC;rw [if_neg (by simp [h]),if_neg (by simp [h3])]
theorem of_claim {e:EngD} {cs:List ClD} {k:Nat} (h:claimC e cs k=0):oneC e (CJ cs k)=0∧(0<k→aheadC (CJ cs (k - 1)) (CJ cs k)=true):=by
 by_cases h1:oneC e (CJ cs k)=0
 ·refine ⟨h1,fun h2=>?_⟩
  cases h3:aheadC (CJ cs (k - 1)) (CJ cs k)
  ·rw [c_form h1 h2 h3] at h;cases h
  ·rfl
 ·rw [c_one h1] at h;exact absurd h h1
theorem rg_bad {f:Nat→Int} {n k:Nat} (h:k<n) (h1:f k≠0):firstNZ f ((List.range n).drop k)=f k:=by
 have:=nz_bad (f:=f) (l:=List.range n) (k:=k) (by simpa using h) (by simpa using h1)
 simpa using this
theorem rg_next {f:Nat→Int} {n k:Nat} (h:k<n) (h1:f k=0):firstNZ f ((List.range n).drop k)=firstNZ f ((List.range n).drop (k+1)):=
 nz_next (f:=f) (l:=List.range n) (k:=k) (by simpa using h) (by simpa using h1)
theorem rg_end {f:Nat→Int} {n k:Nat} (h:n≤k):firstNZ f ((List.range n).drop k)=0:=nz_end (by simpa using h)
theorem d_eng {d:DeskD} (h:engC d.eng≠0):deskC d=engC d.eng:=by unfold deskC;rw [if_pos h]
theorem d_many {d:DeskD} (h:engC d.eng=0) (h2:60<d.claims.length):deskC d=2:=by unfold deskC;rw [if_neg (by simp [h]),if_pos h2]
theorem d_rest {d:DeskD} (h:engC d.eng=0) (h2:¬60<d.claims.length):deskC d=claimsC d.eng d.claims:=by unfold deskC;rw [if_neg (by simp [h]),if_neg h2]
theorem of_d {d:DeskD} (h:deskC d=0):engC d.eng=0∧d.claims.length≤60∧claimsC d.eng d.claims=0:=by
 by_cases h1:engC d.eng=0
 ·by_cases h2:60<d.claims.length
  ·rw [d_many h1 h2] at h;cases h
  ·rw [d_rest h1 h2] at h;exact ⟨h1,by omega,h⟩
 ·rw [d_eng h1] at h;exact absurd h h1
theorem of_claims {e:EngD} {cs:List ClD} (h:claimsC e cs=0) {k:Nat} (hk:k<cs.length):claimC e cs k=0:=nz_all h k (List.mem_range.2 hk)
end Dk
end Go.Proofs.YtccklgopcjilcaaGreatDoor
/- A chart under way in the program's memory: one block of 55 cells. -/
namespace Go.Proofs.YtccklgopcjilcaaGreatDoor
open Go.RowKit Go.Deep
set_option linter.unusedVariables false
namespace Kc
open Ex (inR evalCode evalVal vFault hid)
open St (StepD)
open Ch (RunD)
open Pf
def kval (u:Value) (s:CS) (j:Nat):Value:=
 if j=0 then u else if j=1 then .int .i64 s.status else if j=2 then .int .i64 s.now else if j<7 then .int .i64 (s.vars.getD (j - 3) 0) else if j<31 then .int .i64 (s.acts (j - 7)) else .int .i64 (s.dues (j - 31))
def kcs (u:Value) (s:CS):List Value:=(List.range 55).map (kval u s)
theorem kcs_len (u:Value) (s:CS):(kcs u s).length=55:=by simp [kcs]
theorem kcs_get {u:Value} {s:CS} {j:Nat} (h:j<55):(kcs u s)[j]?=some (kval u s j):=by
 unfold kcs
 rw [List.getElem?_map,List.getElem?_range h]
 rfl
structure KAt (wg w:World) (R:Nat) (u:Value) (ss:List StepD) (s:CS):Prop where
 st:PAt wg ss u
 cap:capOk u
 bel:Below wg.heap.size wg w
 old:wg.heap.size≤R
 blk:w.heap[R]?=some (.cells (kcs u s).toArray 129)
 len:s.vars.length=4
 pad:∀i,ss.length≤i→s.acts i=0∧s.dues i=0
theorem KAt.below {wg w w':World} {R:Nat} {u:Value} {ss:List StepD} {s:CS} (h:KAt wg w R u ss s) (hb:Below w.heap.size w w'):KAt wg w' R u ss s:=
 ⟨h.st,h.cap,h.bel.trans (hb.mono h.bel.size),h.old,(hb.block R (Array.getElem?_eq_some_iff.1 h.blk).1).trans h.blk,h.len,h.pad⟩
theorem KAt.lt {wg w:World} {R:Nat} {u:Value} {ss:List StepD} {s:CS} (h:KAt wg w R u ss s):R<w.heap.size:=(Array.getElem?_eq_some_iff.1 h.blk).1
theorem KAt.cell {wg w:World} {R:Nat} {u:Value} {ss:List StepD} {s:CS} (h:KAt wg w R u ss s) {j:Nat} (hj:j<55):w.cell? ⟨R,j,none⟩=some (kval u s j):=by
 have:=kcs_get (u:=u) (s:=s) hj
 simp only [World.cell?,h.blk,Option.isSome_none,Bool.false_eq_true,if_false]
 simpa using this
theorem KAt.free {wg w:World} {R:Nat} {u:Value} {ss:List StepD} {s:CS} (h:KAt wg w R u ss s) (j:Nat):w.frozen? ⟨R,j,none⟩=false:=by simp [World.frozen?,h.blk]
theorem KAt.c0 {wg w:World} {R:Nat} {u:Value} {ss:List StepD} {s:CS} (h:KAt wg w R u ss s):w.cell? ⟨R,0,none⟩=some u:=h.cell (by decide)
theorem KAt.c1 {wg w:World} {R:Nat} {u:Value} {ss:List StepD} {s:CS} (h:KAt wg w R u ss s):w.cell? ⟨R,1,none⟩=some (.int .i64 s.status):=h.cell (by decide)
theorem KAt.c2 {wg w:World} {R:Nat} {u:Value} {ss:List StepD} {s:CS} (h:KAt wg w R u ss s):w.cell? ⟨R,2,none⟩=some (.int .i64 s.now):=h.cell (by decide)
theorem KAt.cA {wg w:World} {R:Nat} {u:Value} {ss:List StepD} {s:CS} (h:KAt wg w R u ss s) {i:Nat} (hi:i<24):w.cell? ⟨R,7+i,none⟩=some (.int .i64 (s.acts i)):=by
 rw [h.cell (by omega)]
 unfold kval
 rw [if_neg (by omega),if_neg (by omega),if_neg (by omega),if_neg (by omega),if_pos (by omega),Nat.add_sub_cancel_left]
theorem KAt.cD {wg w:World} {R:Nat} {u:Value} {ss:List StepD} {s:CS} (h:KAt wg w R u ss s) {i:Nat} (hi:i<24):w.cell? ⟨R,31+i,none⟩=some (.int .i64 (s.dues i)):=by
 rw [h.cell (by omega)]
 unfold kval
 rw [if_neg (by omega),if_neg (by omega),if_neg (by omega),if_neg (by omega),if_neg (by omega),Nat.add_sub_cancel_left]
theorem KAt.steps {wg w:World} {R:Nat} {u:Value} {ss:List StepD} {s:CS} (h:KAt wg w R u ss s):PAt w ss u:=h.st.below h.bel
set_option maxRecDepth 100000 in
set_option maxHeartbeats 1000000 in
theorem isOn (wg w:World) (R:Nat) (u:Value) (ss:List StepD) (s:CS) (k:Nat) (hk:k<24) (h:KAt wg w R u ss s):
    Calls Tryz.prog 165 #[.pointer (some ⟨R,0,none⟩),.int .i64 (k:Int)] w fun e w'=>e=.returned (.bool (s.acts k==1))∧w'=w:=by
 have c:=h.cA hk
 have q1:(0:Int)≤(k:Int):=by omega
 have q2:(k:Int)<24:=by omega
 clear h
 go_enter Tryz.func165,Tryz.ntmps165
 go_wp2
 go_ret
 exact ⟨rfl,rfl⟩
end Kc
end Go.Proofs.YtccklgopcjilcaaGreatDoor
/- A chart under way in the program's memory: what is written there. -/
namespace Go.Proofs.YtccklgopcjilcaaGreatDoor
open Go.RowKit Go.Deep
set_option linter.unusedVariables false
set_option linter.unusedSimpArgs false
namespace Kc
open Ex (inR evalCode evalVal vFault hid)
open St (StepD)
open Ch (RunD)
open Pf
def setL (cs:List Value) (o:Nat):List Value→List Value
 | []=>cs
 | v :: r=>setL (cs.set o v) (o+1) r
theorem setL_get:∀(vs cs:List Value) (o j:Nat),o+vs.length≤cs.length→(setL cs o vs)[j]?=if o≤j∧j<o+vs.length then vs[j - o]? else cs[j]?
 | [],cs,o,j,_=>by rw [setL,if_neg (by simp)]
 | v :: r,cs,o,j,h=>by
  simp only [List.length_cons] at h
  rw [setL,setL_get r _ _ _ (by simp;omega),List.length_cons]
  by_cases h1:j=o
  ·subst h1
   rw [if_neg (by omega),if_pos (by omega),List.getElem?_set_self (by omega),Nat.sub_self]
   rfl
  ·by_cases h2:o+1≤j∧j<o+1+r.length
   ·rw [if_pos h2,if_pos (by omega),show j - o=(j - (o+1))+1 by omega]
    rfl
   ·rw [if_neg h2,if_neg (by omega),List.getElem?_set_ne (by omega)]
theorem heap_setCells:∀(vs:List Value) (w:World) (b o:Nat) (cs:List Value) (t:TypeId),w.heap[b]?=some (.cells cs.toArray t)→(w.setCells b o vs).heap[b]?=some (.cells (setL cs o vs).toArray t)
 | [],w,b,o,cs,t,h=>h
 | v :: r,w,b,o,cs,t,h=>by
  rw [World.setCells,setL]
  refine heap_setCells r _ b (o+1) (cs.set o v) t ?_
  have:=Ch.blk_set (i:=o) h v
  simpa only [List.setIfInBounds_toArray] using this
theorem heap_other:∀(vs:List Value) (w:World) (b o:Nat) {i:Nat},i≠b→(w.setCells b o vs).heap[i]?=w.heap[i]?
 | [],w,b,o,i,_=>rfl
 | v :: r,w,b,o,i,h=>by
  rw [World.setCells,heap_other r _ b (o+1) h]
  exact Below.heap_setCell _ _ _ _ h
theorem below_setCells {B:Nat} {x:World}:∀(vs:List Value) (w:World) (b o:Nat),B≤b→Below B x w→Below B x (w.setCells b o vs)
 | [],w,b,o,_,h=>h
 | v :: r,w,b,o,hb,h=>by
  rw [World.setCells]
  exact below_setCells r _ b (o+1) hb (h.setCell (p:=⟨b,o,none⟩) hb v)
structure Rides (R:Nat) (w w':World):Prop where
 os:w'.os=w.os
 tape:w'.tape=w.tape
 output:w'.output=w.output
 size:w.heap.size≤w'.heap.size
 block:∀b,b<w.heap.size→b≠R→w'.heap[b]?=w.heap[b]?
theorem Rides.of_below {R:Nat} {w w':World} (h:Below w.heap.size w w'):Rides R w w':=⟨h.os,h.tape,h.output,h.size,fun b hb _=>h.block b hb⟩
theorem Rides.trans {R:Nat} {a b c:World} (h:Rides R a b) (h':Rides R b c):Rides R a c:=
 ⟨h'.os.trans h.os,h'.tape.trans h.tape,h'.output.trans h.output,Nat.le_trans h.size h'.size,fun k hk hn=>(h'.block k (Nat.lt_of_lt_of_le hk h.size) hn).trans (h.block k hk hn)⟩
theorem Rides.refl (R:Nat) (w:World):Rides R w w:=⟨rfl,rfl,rfl,Nat.le_refl _,fun _ _ _=>rfl⟩
theorem Rides.set (R:Nat) (w:World) (o:Nat) (v:Value):Rides R w (w.setCell ⟨R,o,none⟩ v):=
 ⟨rfl,rfl,rfl,by simp [World.setCell],fun b hb hn=>Below.heap_setCell _ _ _ _ hn⟩
theorem Rides.below {R:Nat} {wg w w':World} (h:Rides R w w') (hb:Below wg.heap.size wg w) (ho:wg.heap.size≤R):Below wg.heap.size wg w':=
 ⟨h.os.trans hb.os,h.tape.trans hb.tape,h.output.trans hb.output,Nat.le_trans hb.size h.size,fun b hb'=>(h.block b (Nat.lt_of_lt_of_le hb' hb.size) (by omega)).trans (hb.block b hb')⟩
theorem kcs_setL {u:Value} {s s':CS} {o:Nat} {vs:List Value} (h1:o+vs.length≤55) (h:∀j,j<55→some (kval u s' j)=if o≤j∧j<o+vs.length then vs[j - o]? else some (kval u s j)):setL (kcs u s) o vs=kcs u s':=by
 refine List.ext_getElem? fun j=>?_
 rw [setL_get _ _ _ _ (by rw [kcs_len];exact h1)]
 rcases Nat.lt_or_ge j 55 with hj | hj
 ·rw [kcs_get hj,kcs_get hj,h j hj]
 ·rw [if_neg (by omega),List.getElem?_eq_none (by rw [kcs_len];exact hj),List.getElem?_eq_none (by rw [kcs_len];exact hj)]
theorem KAt.puts {wg w:World} {R:Nat} {u:Value} {ss:List StepD} {s s':CS} (h:KAt wg w R u ss s) {o:Nat} {vs:List Value} (h1:o+vs.length≤55) (hk:∀j,j<55→some (kval u s' j)=if o≤j∧j<o+vs.length then vs[j - o]? else some (kval u s j)) (hl:s'.vars.length=4) (hpad:∀i,ss.length≤i→s'.acts i=0∧s'.dues i=0):
    KAt wg (w.setCells R o vs) R u ss s':=
 ⟨h.st,h.cap,below_setCells _ _ _ _ h.old h.bel,h.old,by rw [heap_setCells _ _ _ _ _ _ h.blk,kcs_setL h1 hk],hl,hpad⟩
theorem KAt.put {wg w:World} {R:Nat} {u:Value} {ss:List StepD} {s s':CS} (h:KAt wg w R u ss s) {o:Nat} {v:Value} (h1:o<55) (hk:∀j,j<55→kval u s' j=if o=j then v else kval u s j) (hl:s'.vars.length=4) (hpad:∀i,ss.length≤i→s'.acts i=0∧s'.dues i=0):
    KAt wg (w.setCell ⟨R,o,none⟩ v) R u ss s':=
 h.puts (o:=o) (vs:=[v]) (by simp;omega) (fun j hj=>by
  rw [hk j hj]
  by_cases e:o=j
  ·subst e;simp
  ·rw [if_neg e,if_neg (by simp;omega)]) hl hpad
theorem kval_act {u:Value} {s:CS} {k:Nat} (hk:k<24) (v:Int) {j:Nat} (hj:j<55):kval u (act s k v) j=if 7+k=j then .int .i64 v else kval u s j:=by
 unfold kval act upd
 by_cases e:7+k=j
 ·subst e
  rw [if_pos rfl,if_neg (by omega),if_neg (by omega),if_neg (by omega),if_neg (by omega),if_pos (by omega)]
  simp
 ·rw [if_neg e]
  by_cases h1:j<31
  ·by_cases h2:j<7
   ·simp [h2]
   ·have:¬j - 7=k:=by omega
    simp [this]
  ·simp [h1]
theorem kval_due {u:Value} {s:CS} {k:Nat} (hk:k<24) (v:Int) {j:Nat} (hj:j<55):kval u (due s k v) j=if 31+k=j then .int .i64 v else kval u s j:=by
 unfold kval due upd
 by_cases e:31+k=j
 ·subst e
  rw [if_pos rfl,if_neg (by omega),if_neg (by omega),if_neg (by omega),if_neg (by omega),if_neg (by omega)]
  simp
 ·rw [if_neg e]
  by_cases h1:j<31
  ·simp [h1]
  ·have:¬j - 31=k:=by omega
   simp [this]
theorem KAt.act {wg w:World} {R:Nat} {u:Value} {ss:List StepD} {s:CS} (h:KAt wg w R u ss s) {k:Nat} (hk:k<ss.length) (hl:ss.length≤24) (v:Int):KAt wg (w.setCell ⟨R,7+k,none⟩ (.int .i64 v)) R u ss (act s k v):=
 h.put (by omega) (fun j hj=>kval_act (by omega) v hj) h.len (fun i hi=>⟨by show upd s.acts k v i=0;unfold upd;rw [if_neg (by omega)];exact (h.pad i hi).1,(h.pad i hi).2⟩)
theorem KAt.due {wg w:World} {R:Nat} {u:Value} {ss:List StepD} {s:CS} (h:KAt wg w R u ss s) {k:Nat} (hk:k<ss.length) (hl:ss.length≤24) (v:Int):KAt wg (w.setCell ⟨R,31+k,none⟩ (.int .i64 v)) R u ss (due s k v):=
 h.put (by omega) (fun j hj=>kval_due (by omega) v hj) h.len (fun i hi=>⟨(h.pad i hi).1,by show upd s.dues k v i=0;unfold upd;rw [if_neg (by omega)];exact (h.pad i hi).2⟩)
end Kc
end Go.Proofs.YtccklgopcjilcaaGreatDoor
/- The program's VarsFault. -/
namespace Go.Proofs.YtccklgopcjilcaaGreatDoor
open Go.RowKit
set_option linter.unusedVariables false
namespace Ex
open Nd (NodeD)
set_option maxRecDepth 100000 in
set_option maxHeartbeats 400000 in
theorem implBounded (x:Int) (w:World):Calls Tryz.prog 237 #[.int .i64 x] w fun e w'=>e=.returned (.bool (inR x (-1000000) 1000000))∧w'=w:=by
 by_cases h1:-1000000≤x
 ·by_cases h2:x≤1000000
  ·have HV:Hid (inR x (-1000000) 1000000=true):=hid (inR_iff.2 ⟨h1,h2⟩)
   go_enter Tryz.func237,Tryz.ntmps237
   go_wp2
   go_ret
   exact ⟨by rw [HV.out];rfl,rfl⟩
  ·have HV:Hid (inR x (-1000000) 1000000=false):=hid (inR_not.2 (by omega))
   go_enter Tryz.func237,Tryz.ntmps237
   go_wp2
   go_ret
   exact ⟨by rw [HV.out];rfl,rfl⟩
 ·have HV:Hid (inR x (-1000000) 1000000=false):=hid (inR_not.2 (by omega))
  go_enter Tryz.func237,Tryz.ntmps237
  go_wp2
  go_ret
  exact ⟨by rw [HV.out];rfl,rfl⟩
set_option maxRecDepth 100000 in
set_option maxHeartbeats 1000000 in
theorem implVars (B:Nat) (xs:List Int) (v:Value) (w:World) (hl:xs.length≤1048576) (ha:Nu.At w B v xs):
    Calls Tryz.prog 199 #[v] w fun e w'=>e=.returned (.int .i64 (vFault xs))∧w'=w:=by
 obtain ⟨a,cap,rfl⟩:=ha.slice
 have HA:=hid ha
 clear ha
 by_cases h4:xs.length=4
 ·have b1:((xs.length:Int) != 4)=false:=by simp [h4]
  have H4:=hid h4
  have hlt4:xs.length≤4:=by omega
  clear h4
  go_enter Tryz.func199,Tryz.ntmps199
  go_wp2
  go_loop [4,10] (fun _ i=>∃k:Nat,k≤xs.length∧i=.int .i64 k∧Hid (∀j (h:j<xs.length),j<k→inR xs[j] (-1000000) 1000000=true)) (fun _ i=>xs.length - (intOf i).toNat)
  case atStart=>exact ⟨0,Nat.zero_le _,rfl,fun j _ h=>by omega⟩
  case round=>
   obtain ⟨k,hk,rfl,HJ⟩:=hrel
   by_cases hlt:k<xs.length
   ·obtain ⟨g,o,rfl,hg,c0⟩:=HA.out.at hlt
    have q1:(k:Int)<(xs.length:Int):=by omega
    have HI:=hid (fun w'=>implBounded xs[k] w')
    cases hin:inR xs[k] (-1000000) 1000000
    ·have HV:=hid (v_bad H4.out hlt hin)
     rw [hin] at HI
     clear hin
     go_wp2_with (go_at_call 237;refine (HI.out _).mono ?_;rintro e w' ⟨rfl,rfl⟩)
     go_ret
     exact ⟨by rw [HV.out];rfl,rfl⟩
    ·rw [hin] at HI
     have HJ2:Hid (∀j (h:j<xs.length),j<k+1→inR xs[j] (-1000000) 1000000=true):=hid (fun j h hj=>by
      by_cases e:j=k
      ·subst e;exact hin
      ·exact HJ.out j h (by omega))
     clear hin
     go_wp2_with (go_at_call 237;refine (HI.out _).mono ?_;rintro e w' ⟨rfl,rfl⟩)
     exact ⟨⟨k+1,by omega,by simp,HJ2⟩,by simp [intOf];omega⟩
   ·have HV:=hid (v_ok H4.out (fun j h=>HJ.out j h (by omega)))
    go_wp2
    go_ret
    exact ⟨by rw [HV.out];rfl,rfl⟩
 ·have b1:((xs.length:Int) != 4)=true:=by simp;omega
  have HV:=hid (v_len h4)
  clear h4
  go_enter Tryz.func199,Tryz.ntmps199
  go_wp2
  go_ret
  exact ⟨by rw [HV.out];rfl,rfl⟩
theorem implVarsB (B:Nat) (xs:List Int) (v:Value) (w:World) (hl:xs.length≤1048576) (ha:Nu.At w B v xs):
    Calls Tryz.prog 199 #[v] w fun e w'=>e=.returned (.int .i64 (vFault xs))∧Below w.heap.size w w':=
 (implVars B xs v w hl ha).mono (fun e w' ⟨h1,h2⟩=>⟨h1,by rw [h2];exact Below.refl _ _⟩)
end Ex
end Go.Proofs.YtccklgopcjilcaaGreatDoor
/- The numbers of a chart, asked by the program. -/
namespace Go.Proofs.YtccklgopcjilcaaGreatDoor
open Go.RowKit Go.Deep
set_option linter.unusedVariables false
namespace Kc
open Ex (inR evalCode evalVal vFault hid)
open St (StepD)
open Ch (RunD)
open Pf
set_option maxRecDepth 100000 in
set_option maxHeartbeats 1000000 in
theorem isTime (x:Int) (w:World):Calls Tryz.prog 145 #[.int .i64 x] w fun e w'=>e=.returned (.bool (inR x 0 1000000))∧w'=w:=by
 by_cases h1:(0:Int)≤x
 ·by_cases h2:x≤1000000
  ·have HV:Hid (inR x 0 1000000=true):=hid (Ex.inR_iff.2 ⟨h1,h2⟩)
   go_enter Tryz.func145,Tryz.ntmps145
   go_wp2
   go_ret
   exact ⟨by rw [HV.out];rfl,rfl⟩
  ·have HV:Hid (inR x 0 1000000=false):=hid (Ex.inR_not.2 (by omega))
   go_enter Tryz.func145,Tryz.ntmps145
   go_wp2
   go_ret
   exact ⟨by rw [HV.out];rfl,rfl⟩
 ·have HV:Hid (inR x 0 1000000=false):=hid (Ex.inR_not.2 (by omega))
  go_enter Tryz.func145,Tryz.ntmps145
  go_wp2
  go_ret
  exact ⟨by rw [HV.out];rfl,rfl⟩
set_option maxRecDepth 100000 in
set_option maxHeartbeats 2000000 in
theorem stateFault (B:Nat) (st now:Int) (vars:List Int) (v:Value) (w:World) (hl:vars.length≤1048576) (ha:Nu.At w B v vars):
    Calls Tryz.prog 163 #[.int .i64 st,.int .i64 now,v] w fun e w'=>e=.returned (.int .i64 (stateC st now vars))∧Below w.heap.size w w':=by
 have HT:=hid (fun w'=>isTime now w')
 have HV:=hid (Ex.implVarsB B vars v w hl ha)
 obtain ⟨a,cap,rfl⟩:=ha.slice
 clear ha
 cases h1:inR st 1 3
 ·have HX:=hid (st_status (now:=now) (vars:=vars) h1)
  have h1':=Ex.inR_not.1 h1
  by_cases q1:st<1
  ·clear h1 h1'
   go_enter Tryz.func163,Tryz.ntmps163
   go_wp2
   go_ret
   exact ⟨by rw [HX.out];rfl,Below.refl _ _⟩
  ·have q2:(3:Int)<st:=by omega
   clear h1 h1'
   go_enter Tryz.func163,Tryz.ntmps163
   go_wp2
   go_ret
   exact ⟨by rw [HX.out];rfl,Below.refl _ _⟩
 ·have h1':=Ex.inR_iff.1 h1
  have q1:¬st<1:=by omega
  have q2:¬(3:Int)<st:=by omega
  cases h2:inR now 0 1000000
  ·have HX:=hid (st_now (vars:=vars) h1 h2)
   rw [h2] at HT
   clear h1 h1' h2
   go_enter Tryz.func163,Tryz.ntmps163
   go_wp2_with (go_at_call 145;refine (HT.out _).mono ?_;rintro e w2 ⟨rfl,hw2⟩;replace hw2:=hw2.symm;subst hw2)
   go_ret
   exact ⟨by rw [HX.out];rfl,Below.refl _ _⟩
  ·have HX:=hid (st_vars (vars:=vars) h1 h2)
   rw [h2] at HT
   clear h1 h1' h2
   go_enter Tryz.func163,Tryz.ntmps163
   go_wp2_with (first | (go_at_call 145;refine (HT.out _).mono ?_;rintro e w2 ⟨rfl,hw2⟩;replace hw2:=hw2.symm;subst hw2) | (go_at_call 199;refine HV.out.mono ?_;rintro e w2 ⟨rfl,hb2⟩))
   go_ret
   exact ⟨by rw [HX.out];rfl,by assumption⟩
set_option maxRecDepth 100000 in
set_option maxHeartbeats 2000000 in
theorem allWithin (B:Nat) (l:List Int) (m:Int) (v:Value) (w:World) (hl:l.length≤1048576) (ha:Nu.At w B v l):
    Calls Tryz.prog 164 #[v,.int .i64 m] w fun e w'=>e=.returned (.bool (within l m))∧w'=w:=by
 obtain ⟨a,cap,rfl⟩:=ha.slice
 have HA:=hid ha
 clear ha
 go_enter Tryz.func164,Tryz.ntmps164
 go_wp2
 go_loop [6,9] (fun _ x=>∃i:Nat,x=.int .i64 i∧i≤l.length∧Hid (within (l.take i) m=true)) (fun _ x=>l.length - (intOf x).toNat)
 case atStart=>exact ⟨0,rfl,Nat.zero_le _,hid rfl⟩
 case round=>
  obtain ⟨i,rfl,hi,HW⟩:=hrel
  by_cases hlt:i<l.length
  ·obtain ⟨g,o,rfl,hg,hc⟩:=HA.out.at hlt
   have q1:(i:Int)<(l.length:Int):=by omega
   have HN:=hid (within_take (m:=m) hlt)
   have HBD:=hid (within_bad (m:=m) hlt)
   generalize l[i]=x at *
   cases hx:inR x 0 m
   ·have HF:=hid (HBD.out hx)
    have h2:=Ex.inR_not.1 hx
    by_cases q2:x<0
    ·clear h2 hx HBD HN
     go_wp2
     go_ret
     exact ⟨by rw [HF.out];rfl,rfl⟩
    ·have q3:m<x:=by omega
     clear h2 hx HBD HN
     go_wp2
     go_ret
     exact ⟨by rw [HF.out];rfl,rfl⟩
   ·have h2:=Ex.inR_iff.1 hx
    have q2:¬x<0:=by omega
    have q3:¬m<x:=by omega
    have HW2:Hid (within (l.take (i+1)) m=true):=hid (by rw [HN.out,HW.out,hx];rfl)
    clear h2 hx HBD HN
    go_wp2
    exact ⟨⟨i+1,by simp,by omega,HW2⟩,by simp [intOf];omega⟩
  ·have HF:Hid (within l m=true):=hid (by have:=HW.out;rwa [List.take_of_length_le (by omega)] at this)
   have q1:¬(i:Int)<(l.length:Int):=by omega
   go_wp2
   go_ret
   exact ⟨by rw [HF.out];rfl,rfl⟩
set_option maxRecDepth 100000 in
set_option maxHeartbeats 4000000 in
theorem numbersFault (r:RunD) (sa:Option Addr) (n sc:Nat) (v1 v2 v3:Value) (w:World) (hn:n≤24) (hs:Ch.Small 1048576 r) (ha:Ch.At w 0 v1 v2 v3 r):
    Calls Tryz.prog 123 #[.slice sa n sc,.agg #[.int .i64 r.status,.int .i64 r.now,v1,v2,v3]] w fun e w'=>e=.returned (.int .i64 (numC n r))∧Below w.heap.size w w':=by
 obtain ⟨a1,c1,rfl⟩:=ha.vars.slice
 obtain ⟨a2,c2,rfl⟩:=ha.marks.slice
 obtain ⟨a3,c3,rfl⟩:=ha.dues.slice
 have s1:=hs.vars
 have s2:=hs.marks
 have s3:=hs.dues
 obtain ⟨w0,e0⟩:∃w0,w0=w.alloc (.cells #[.int .i64 r.status,.int .i64 r.now,.slice a1 r.vars.length c1,.slice a2 r.marks.length c2,.slice a3 r.dues.length c3] 112):=⟨_,rfl⟩
 have hb0:Below w.heap.size w w0:=by rw [e0];exact (Below.refl _ w).alloc (Nat.le_refl _) _
 have hk0:w0.heap[w.heap.size]?=some (.cells #[.int .i64 r.status,.int .i64 r.now,.slice a1 r.vars.length c1,.slice a2 r.marks.length c2,.slice a3 r.dues.length c3] 112):=by rw [e0];exact Ch.new_blk _ _
 have HS:=hid (stateFault 0 r.status r.now r.vars _ w0 (by omega) (ha.vars.below hb0))
 have HA2:=hid (ha.marks.below hb0)
 have HA3:=hid (ha.dues.below hb0)
 have HB0:=hid hb0
 clear ha hb0 hs
 go_enter Tryz.func123,Tryz.ntmps123
 go_wp2_with fail
 rw [←e0]
 refine HS.out.mono ?_
 rintro e w1 ⟨rfl,hb1⟩
 have hk1:=(hb1.block _ (Ch.blk_lt hk0)).trans hk0
 have d0:w1.cell? ⟨w.heap.size,0,none⟩=some (.int .i64 r.status):=Ch.blk_cell hk1 0
 have d1:w1.cell? ⟨w.heap.size,1,none⟩=some (.int .i64 r.now):=Ch.blk_cell hk1 1
 have d3:w1.cell? ⟨w.heap.size,3,none⟩=some (.slice a2 r.marks.length c2):=Ch.blk_cell hk1 3
 have d4:w1.cell? ⟨w.heap.size,4,none⟩=some (.slice a3 r.dues.length c3):=Ch.blk_cell hk1 4
 have HB1:=hid (HB0.out.trans (hb1.mono HB0.out.size))
 have HM:=hid (fun w' (e:w'=w1)=>allWithin 0 r.marks 2 (.slice a2 r.marks.length c2) w' (by omega) (by rw [e];exact HA2.out.below hb1))
 have HD:=hid (fun w' (e:w'=w1)=>allWithin 0 r.dues (r.now+99) (.slice a3 r.dues.length c3) w' (by omega) (by rw [e];exact HA3.out.below hb1))
 clear HS HA2 HA3 hb1 hk1 hk0 e0
 by_cases h0:stateC r.status r.now r.vars=0
 ·have b0:(stateC r.status r.now r.vars != 0)=false:=by simp [h0]
  obtain ⟨_,hnow,_⟩:=of_state h0
  have hnow':=Ex.inR_iff.1 hnow
  clear hnow
  by_cases h1:r.marks.length=n∧r.dues.length=n
  ·have b1:((r.marks.length:Int) != (n:Int))=false:=by simp [h1.1]
   have b2:((r.dues.length:Int) != (n:Int))=false:=by simp [h1.2]
   have HX1:=hid (num_range h0 h1.1 h1.2)
   have HX2:=hid (num_ok h0 h1.1 h1.2)
   clear h0 h1
   cases h2:within r.marks 2
   ·have HX:=hid (HX1.out (by rw [h2];rfl))
    rw [h2] at HM
    clear h2 HX1 HX2
    go_wp2_with (go_at_call 164;refine (HM.out _ rfl).mono ?_;rintro e w2 ⟨rfl,hw2⟩;replace hw2:=hw2.symm;subst hw2)
    go_ret
    exact ⟨by rw [HX.out];rfl,HB1.out⟩
   ·rw [h2] at HM
    cases h3:within r.dues (r.now+99)
    ·have HX:=hid (HX1.out (by rw [h2,h3];rfl))
     rw [h3] at HD
     clear h2 h3 HX1 HX2
     go_wp2_with fail
     refine (HM.out _ rfl).mono ?_
     rintro e w2 ⟨rfl,hw2⟩
     replace hw2:=hw2.symm
     subst hw2
     go_wp2_with fail
     refine (HD.out _ rfl).mono ?_
     rintro e w2 ⟨rfl,hw2⟩
     replace hw2:=hw2.symm
     subst hw2
     go_wp2
     go_ret
     exact ⟨by rw [HX.out];rfl,HB1.out⟩
    ·have HX:=hid (HX2.out h2 h3)
     rw [h3] at HD
     clear h2 h3 HX1 HX2
     go_wp2_with fail
     refine (HM.out _ rfl).mono ?_
     rintro e w2 ⟨rfl,hw2⟩
     replace hw2:=hw2.symm
     subst hw2
     go_wp2_with fail
     refine (HD.out _ rfl).mono ?_
     rintro e w2 ⟨rfl,hw2⟩
     replace hw2:=hw2.symm
     subst hw2
     go_wp2
     go_ret
     exact ⟨by rw [HX.out];rfl,HB1.out⟩
  ·have HX:=hid (num_len h0 h1)
   clear HM HD
   by_cases h2:r.marks.length=n
   ·have b1:((r.marks.length:Int) != (n:Int))=false:=by simp [h2]
    have b2:((r.dues.length:Int) != (n:Int))=true:=bne_iff_ne.2 (fun e=>h1 ⟨h2,by omega⟩)
    clear h0 h1 h2
    go_wp2
    go_ret
    exact ⟨by rw [HX.out];rfl,HB1.out⟩
   ·have b1:((r.marks.length:Int) != (n:Int))=true:=bne_iff_ne.2 (fun e=>h2 (by omega))
    clear h0 h1 h2
    go_wp2
    go_ret
    exact ⟨by rw [HX.out];rfl,HB1.out⟩
 ·have b0:(stateC r.status r.now r.vars != 0)=true:=bne_iff_ne.2 h0
  have HX:=hid (num_state (n:=n) h0)
  clear h0 HM HD
  go_wp2
  go_ret
  exact ⟨by rw [HX.out];rfl,HB1.out⟩
end Kc
end Go.Proofs.YtccklgopcjilcaaGreatDoor
