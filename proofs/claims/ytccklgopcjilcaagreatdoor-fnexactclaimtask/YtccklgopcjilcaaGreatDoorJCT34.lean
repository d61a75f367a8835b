/- Laid together: ApA, OfI, Sort, DsA, DmU, DmV, OfM. -/
import Derived.Test.YtccklgopcjilcaaGreatDoorProg
import Derived.Deep.AppendLies
import Derived.Deep.Upon
import Derived.Laws.OwnMore
import Derived.Test.YtccklgopcjilcaaGreatDoorJCT31
import Derived.Test.YtccklgopcjilcaaGreatDoorJCT33
import Derived.Test.YtccklgopcjilcaaGreatDoorJCT3
import Derived.Deep.RegionHeld3
import Derived.Shelf.SlSortCmp.WholeK
import Derived.Test.YtccklgopcjilcaaGreatDoorJCT29
import Derived.Test.YtccklgopcjilcaaGreatDoorJCT28
import Derived.Sort.MapsRangeIn
import Derived.Maps.RangeWalk
import Derived.ChangeMaps4
/- A row is appended to a row that is owned, be it empty or nil: one law, at an operation, at a plain region's list, at a step of a region that draws its order. -/
namespace Go.Proofs.YtccklgopcjilcaaGreatDoor
open Go.RowKit
set_option linter.unusedVariables false
namespace Ap
section
variable {P : Program}
def Row (w:World) (size:Nat) (x:Value) (m:Nat) (news:List Value):Prop:=
 ∃a c,x=.slice a m c∧news.length=m*size∧(∀u∈news,u.oneCell'=true)∧(m=0∨∃ad,a=some ad∧∀(j:Nat) u,news[j]?=some u→w.cell? (ad.add j)=some u)
theorem Row.kept {w w':World} {size m:Nat} {x:Value} {news:List Value} (h:Row w size x m news) (hk:∀a u,w.cell? a=some u→w'.cell? a=some u):Row w' size x m news:=by
 obtain ⟨a,c,hx,hl,h1,h2⟩:=h
 refine ⟨a,c,hx,hl,h1,?_⟩
 rcases h2 with h2 | ⟨ad,ha,hc⟩
 ·exact .inl h2
 ·exact .inr ⟨ad,ha,fun j u hu=>hk _ _ (hc j u hu)⟩
theorem run_any (w:World) (t ty:TypeId) (base:Nat) (e:TypeId) (i:TypeInfo) (z:Value) (size bytes:Nat) (ht:P.underlying t=some (.slice e)) (hi:P.info? e=some i) (hz:i.zero=some z)
    (hsize:i.size=size) (hby:i.bytes=bytes) (hzs:z.cells.size=size) (hsz:0<size)
    (v:Value) (n:Nat) (xs:List Value) (hown:w.ownsRow base e size v n xs) (x:Value) (m:Nat) (news:List Value) (hr:Row w size x m news)
    (h63:n+m≤maxLen) (hbytes:(n+m)*bytes≤140737488355328) (hbase:base≤w.heap.size) (H:Nat) (hH:w.heap.size=H):
    ∃a' c' w',(Builtin.append_ #[t,t] ty #[v,x]).run P w=.ok (.slice a' (n+m) c') w'∧w'.ownsRow base e size (.slice a' (n+m) c') (n+m) (xs++news)∧w.grownBy w' v.ownBlock∧((Value.slice a' (n+m) c').ownBlock=v.ownBlock∨(Value.slice a' (n+m) c').ownBlock=some H):=by
 obtain ⟨a,c,rfl,hl,h1,h2⟩:=hr
 by_cases hm:m=0
 ·subst hm
  obtain rfl:news=[]:=List.eq_nil_of_length_eq_zero (by simpa using hl)
  have hs:Src P i.size t (.slice a 0 c) 0 [] w:=by
   cases a with
   | none=>exact Src.ofNil w ht c
   | some ad=>exact Src.ofSlice w ht ad 0 c [] (by simp) (fun j u h=>by simp at h) (fun u h=>by simp at h)
  obtain ⟨bs,cp,rfl,hle⟩:∃bs cp,v=.slice bs n cp∧n≤cp:=by
   rcases hown.2 with ⟨rfl,rfl⟩ | ⟨g,cap,cur,rfl,_,_,hle,_⟩
   ·exact ⟨none,0,rfl,Nat.le_refl _⟩
   ·exact ⟨_,_,rfl,hle⟩
  refine ⟨bs,cp,w,run_append_nothing (P:=P) w t t ty e i ht hi bs n cp hle _ hs,?_,⟨rfl,rfl,rfl,Nat.le_refl _,fun _ _ _=>rfl⟩,.inl rfl⟩
  rw [List.append_nil]
  exact hown
 ·rcases h2 with h2 | ⟨ad,rfl,hc⟩
  ·exact absurd h2 hm
  ·obtain ⟨g,cap,w',h3,h4,h5,h6,h7⟩:=run_append_lies (P:=P) w t ty base e i z size bytes ht hi hz hsize hby hzs hsz v n xs hown ad m c news hl hc h1 (by omega) h63 hbytes hbase H hH
   refine ⟨some ⟨g,0,none⟩,cap,w',h3,h4,h5,?_⟩
   rcases h6 with h6 | h6
   ·exact .inl h6.symm
   ·right;show some g=_;rw [h6]
theorem wp_any (w:World) {o:Oper} {a:Act} {K:Act→World→Prop} {Q:Exit→Act→World→Prop} (s x:Operand) (t:TypeId)
    (ho:o.op=.call { callee:=.builtin .append,args:=#[s,x],argTypes:=#[t,t] })
    (base:Nat) (e:TypeId) (i:TypeInfo) (z:Value) (size bytes:Nat) (ht:P.underlying t=some (.slice e)) (hi:P.info? e=some i) (hz:i.zero=some z)
    (hsize:i.size=size) (hby:i.bytes=bytes) (hzs:z.cells.size=size) (hsz:0<size)
    (v:Value) (n:Nat) (xs:List Value) (hs:a.eval s=v) (hown:w.ownsRow base e size v n xs) (xv:Value) (m:Nat) (news:List Value) (hx:a.eval x=xv) (hr:Row w size xv m news)
    (h63:n+m≤maxLen) (hbytes:(n+m)*bytes≤140737488355328) (hbase:base≤w.heap.size) (H:Nat) (hH:w.heap.size=H)
    (h:∀a' c' w',w'.ownsRow base e size (.slice a' (n+m) c') (n+m) (xs++news)→w.grownBy w' v.ownBlock→((Value.slice a' (n+m) c').ownBlock=v.ownBlock∨(Value.slice a' (n+m) c').ownBlock=some H)→K (a.put o.dst (.slice a' (n+m) c')) w'):o.wp P a w K Q:=by
 obtain ⟨a',c',w',hrn,h2,h3,h4⟩:=run_any (P:=P) w t o.type base e i z size bytes ht hi hz hsize hby hzs hsz v n xs hown xv m news hr h63 hbytes hbase H hH
 unfold Oper.wp execOp
 simp only [ho,resolve,invoke,builtin,Sem.run_bind,Sem.run_pure,Result.andThen_ok,List.map_toArray,List.map_cons,List.map_nil,hs,hx,hrn]
 exact h a' c' w' h2 h3 h4
theorem wpList_any (w:World) {ops:Array Oper} {rest:List Oper} {o:Oper} {a:Act} {Q:Exit→Act→World→Prop} (hgd:o.guard=none) (s x:Operand) (t:TypeId)
    (ho:o.op=.call { callee:=.builtin .append,args:=#[s,x],argTypes:=#[t,t] })
    (base:Nat) (e:TypeId) (i:TypeInfo) (z:Value) (size bytes:Nat) (ht:P.underlying t=some (.slice e)) (hi:P.info? e=some i) (hz:i.zero=some z)
    (hsize:i.size=size) (hby:i.bytes=bytes) (hzs:z.cells.size=size) (hsz:0<size)
    (v:Value) (n:Nat) (xs:List Value) (hs:a.eval s=v) (hown:w.ownsRow base e size v n xs) (xv:Value) (m:Nat) (news:List Value) (hx:a.eval x=xv) (hr:Row w size xv m news)
    (h63:n+m≤maxLen) (hbytes:(n+m)*bytes≤140737488355328) (hbase:base≤w.heap.size) (H:Nat) (hH:w.heap.size=H)
    (h:∀a' c' w',w'.ownsRow base e size (.slice a' (n+m) c') (n+m) (xs++news)→w.grownBy w' v.ownBlock→((Value.slice a' (n+m) c').ownBlock=v.ownBlock∨(Value.slice a' (n+m) c').ownBlock=some H)→wpList P ops Q rest (a.put o.dst (.slice a' (n+m) c')) w'):wpList P ops Q (o :: rest) a w:=
 wpList_plain hgd fun _ hK=>wp_any w s x t ho base e i z size bytes ht hi hz hsize hby hzs hsz v n xs hs hown xv m news hx hr h63 hbytes hbase H hH fun a' c' w' h2 h3 h4=>hK _ _ (h a' c' w' h2 h3 h4)
theorem step_any (w:World) {ops:Array Oper} {o:Oper} {a:Act} {K:Act→World→Prop} {Q:Exit→Act→World→Prop} {E:Prop} (hgd:o.guard=none) (s x:Operand) (t:TypeId)
    (ho:o.op=.call { callee:=.builtin .append,args:=#[s,x],argTypes:=#[t,t] })
    (base:Nat) (e:TypeId) (i:TypeInfo) (z:Value) (size bytes:Nat) (ht:P.underlying t=some (.slice e)) (hi:P.info? e=some i) (hz:i.zero=some z)
    (hsize:i.size=size) (hby:i.bytes=bytes) (hzs:z.cells.size=size) (hsz:0<size)
    (v:Value) (n:Nat) (xs:List Value) (hs:a.eval s=v) (hown:w.ownsRow base e size v n xs) (xv:Value) (m:Nat) (news:List Value) (hx:a.eval x=xv) (hr:Row w size xv m news)
    (h63:n+m≤maxLen) (hbytes:(n+m)*bytes≤140737488355328) (hbase:base≤w.heap.size) (H:Nat) (hH:w.heap.size=H)
    (h:∀a' c' w',w'.ownsRow base e size (.slice a' (n+m) c') (n+m) (xs++news)→w.grownBy w' v.ownBlock→((Value.slice a' (n+m) c').ownBlock=v.ownBlock∨(Value.slice a' (n+m) c').ownBlock=some H)→K (a.put o.dst (.slice a' (n+m) c')) w'):
    if Region.wanted o (yielded ops a.tmps)=true then Oper.wp P o a w K Q else E:=by
 have hw:Region.wanted o (yielded ops a.tmps)=true:=by simp [Region.wanted,hgd]
 rw [if_pos hw]
 exact wp_any w s x t ho base e i z size bytes ht hi hz hsize hby hzs hsz v n xs hs hown xv m news hx hr h63 hbytes hbase H hH h
end
end Ap
end Go.Proofs.YtccklgopcjilcaaGreatDoor
/- ClaimsOf on both sides. Condition on the program's: the table of rules lies as its initialiser lays it. -/
namespace Go.Proofs.YtccklgopcjilcaaGreatDoor
open Go.RowKit Go.Deep
set_option linter.unusedVariables false
set_option linter.unusedSimpArgs false
namespace Of
open Dk (DeskD deskC isU implDeskFault specFault implIsUser specUser)
open Cl (ClD)
open Pf (Rul)
open Ex (hid)
open St (old_cell)
open Ch (blk_cell blk_lt blk_free new_blk new_at)
theorem two {w:World} {b:Nat} {t:TypeId} {z0 z1:Value} (h:w.heap[b]?=some (.cells #[z0,z1] t)):
    w.cell? ⟨b,0,none⟩=some z0∧w.cell? ⟨b,1,none⟩=some z1∧(∀i,w.frozen? ⟨b,i,none⟩=false)∧b<w.heap.size:=
 ⟨blk_cell h 0,blk_cell h 1,fun i=>blk_free h i,blk_lt h⟩
theorem row_three (w:World) {n:Nat} (hn:w.heap.size=n) (c:ClD) (e:TypeId):Ap.Row (w.alloc (.cells #[.int .i64 c.inst,.int .i64 c.step,.int .i64 c.user] e)) 3 (.slice (some ⟨n,0,none⟩) 1 1) 1 (cv c):=by
 refine ⟨_,_,rfl,rfl,(by simp [cv,Value.oneCell']),.inr ⟨_,rfl,fun j u hu=>?_⟩⟩
 have hk:=new_blk w (.cells #[.int .i64 c.inst,.int .i64 c.step,.int .i64 c.user] e)
 rw [hn] at hk
 match j with
 | 0=>simp [cv] at hu;subst hu;exact blk_cell hk 0
 | 1=>simp [cv] at hu;subst hu;exact blk_cell hk 1
 | 2=>simp [cv] at hu;subst hu;exact blk_cell hk 2
 | n+3=>simp [cv] at hu
theorem own_snoc {w:World} {B:Nat} {v:Value} {xs:List ClD} {c:ClD} (h:w.ownsRow B 143 3 v (xs.length+1) (cvals xs++cv c)):COwn w B v (xs++[c]):=by
 unfold COwn
 rw [cvals_snoc,List.length_append,List.length_singleton];exact h
end Of
end Go.Proofs.YtccklgopcjilcaaGreatDoor
/- A contract of the library that this seat uses, laid at its program. -/
namespace Go.Proofs.YtccklgopcjilcaaGreatDoor
open Go.Shelf
def Tryz.sortClaims_ren:Go.Shelf.Ren:=⟨fun | 6=>136 | 15=>174 | 14=>173 | 28=>212 | 29=>213 | 20=>204 | 21=>205 | 22=>206 | 23=>207 | 24=>208 | 25=>209 | 26=>210 | 27=>211 | 46=>239 | 47=>240 | 48=>241 | 49=>242 | 50=>243 | 57=>258 | n=>n,fun | 22=>28 | 24=>143 | 25=>200 | 3=>3 | 39=>241 | 0=>0 | 53=>278 | 55=>280 | 4=>4 | 46=>271 | 45=>270 | 50=>275 | 5=>5 | 9=>9 | 66=>308 | 70=>312 | 76=>332 | 77=>333 | n=>n,fun | n=>n⟩
theorem Tryz.sortClaims:Go.Proofs.SlLaysF0.n6 Tryz.prog Tryz.sortClaims_ren:={
 mixed:=by kernel_rfl
 f6:=⟨Tryz.f136.name,by decide,Tryz.func136.trans (congrArg some (by kernel_rfl))⟩
 f14:=⟨Tryz.f173.name,by decide,Tryz.func173.trans (congrArg some (by kernel_rfl))⟩
 f15:=Tryz.func174.trans (congrArg some (by kernel_rfl))
 f20:=⟨Tryz.f204.name,by decide,Tryz.func204.trans (congrArg some (by kernel_rfl))⟩
 f21:=⟨Tryz.f205.name,by decide,Tryz.func205.trans (congrArg some (by kernel_rfl))⟩
 f22:=⟨Tryz.f206.name,by decide,Tryz.func206.trans (congrArg some (by kernel_rfl))⟩
 f23:=⟨Tryz.f207.name,by decide,Tryz.func207.trans (congrArg some (by kernel_rfl))⟩
 f24:=⟨Tryz.f208.name,by decide,Tryz.func208.trans (congrArg some (by kernel_rfl))⟩
 f25:=⟨Tryz.f209.name,by decide,Tryz.func209.trans (congrArg some (by kernel_rfl))⟩
 f26:=⟨Tryz.f210.name,by decide,Tryz.func210.trans (congrArg some (by kernel_rfl))⟩
 f27:=⟨Tryz.f211.name,by decide,Tryz.func211.trans (congrArg some (by kernel_rfl))⟩
 f28:=Tryz.func212.trans (congrArg some (by kernel_rfl))
 f29:=Tryz.func213.trans (congrArg some (by kernel_rfl))
 f46:=⟨Tryz.f239.name,by decide,Tryz.func239.trans (congrArg some (by kernel_rfl))⟩
 f47:=Tryz.func240.trans (congrArg some (by kernel_rfl))
 f48:=Tryz.func241.trans (congrArg some (by kernel_rfl))
 f49:=⟨Tryz.f242.name,by decide,Tryz.func242.trans (congrArg some (by kernel_rfl))⟩
 f50:=⟨Tryz.f243.name,by decide,Tryz.func243.trans (congrArg some (by kernel_rfl))⟩
 f57:=⟨Tryz.f258.name,by decide,Tryz.func258.trans (congrArg some (by kernel_rfl))⟩
 t0:=Tryz.underlying0
 a0:=Tryz.isAgg0
 z0:=Tryz.sizeOf0
 v0:=Tryz.zeroValue0
 t3:=Tryz.underlying3
 a3:=Tryz.isAgg3
 z3:=Tryz.sizeOf3
 v3:=Tryz.zeroValue3
 t4:=Tryz.underlying4
 a4:=Tryz.isAgg4
 z4:=Tryz.sizeOf4
 v4:=Tryz.zeroValue4
 t5:=Tryz.underlying5
 a5:=Tryz.isAgg5
 z5:=Tryz.sizeOf5
 v5:=Tryz.zeroValue5
 t9:=Tryz.underlying9
 a9:=Tryz.isAgg9
 z9:=Tryz.sizeOf9
 v9:=Tryz.zeroValue9
 t22:=Tryz.underlying28
 a22:=Tryz.isAgg28
 z22:=Tryz.sizeOf28
 v22:=Tryz.zeroValue28
 t25:=Tryz.underlying200
 a25:=Tryz.isAgg200
 z25:=Tryz.sizeOf200
 v25:=Tryz.zeroValue200
 t39:=Tryz.underlying241
 a39:=Tryz.isAgg241
 z39:=Tryz.sizeOf241
 v39:=Tryz.zeroValue241
 t45:=Tryz.underlying270
 a45:=Tryz.isAgg270
 z45:=Tryz.sizeOf270
 v45:=Tryz.zeroValue270
 t46:=Tryz.underlying271
 a46:=Tryz.isAgg271
 z46:=Tryz.sizeOf271
 v46:=Tryz.zeroValue271
 t50:=Tryz.underlying275
 a50:=Tryz.isAgg275
 z50:=Tryz.sizeOf275
 v50:=Tryz.zeroValue275
 t53:=Tryz.underlying278
 a53:=Tryz.isAgg278
 z53:=Tryz.sizeOf278
 v53:=Tryz.zeroValue278
 t55:=Tryz.underlying280
 a55:=Tryz.isAgg280
 z55:=Tryz.sizeOf280
 v55:=Tryz.zeroValue280
 t66:=Tryz.underlying308
 a66:=Tryz.isAgg308
 z66:=Tryz.sizeOf308
 v66:=Tryz.zeroValue308
 t70:=Tryz.underlying312
 a70:=Tryz.isAgg312
 z70:=Tryz.sizeOf312
 v70:=Tryz.zeroValue312
 t76:=Tryz.underlying332
 a76:=Tryz.isAgg332
 z76:=Tryz.sizeOf332
 v76:=Tryz.zeroValue332
 t77:=Tryz.underlying333
 a77:=Tryz.isAgg333
 z77:=Tryz.sizeOf333
 v77:=Tryz.zeroValue333 }
end Go.Proofs.YtccklgopcjilcaaGreatDoor
/- The program's sort of claims: a row of claims of one's own comes in order. -/
namespace Go.Proofs.YtccklgopcjilcaaGreatDoor
open Go.RowKit Go.Shelf Go.Deep
set_option linter.unusedVariables false
namespace Ds
open Go.Sort (HoldsK flatK PermIn SortedIn SWO grow)
open Ex (hid)
open Gr (cmpE cmpI cmpE_lt)
open Cl (ClD)
open Of (cv cvals cvals_get COwn)
instance:Inhabited ClD:=⟨⟨0,0,0⟩⟩
def cmpC (x y:ClD):Int:=cmpE (x.inst,x.step) (y.inst,y.step)
theorem cmpC_lt {x y:ClD}:cmpC x y<0↔x.inst<y.inst∨(x.inst=y.inst∧x.step<y.step):=cmpE_lt
theorem holds_of {w:World} {B blk cap:Nat} {ss:List ClD} {e:TypeId} (h:w.ownsRow B e 3 (.slice (some ⟨blk,0,none⟩) ss.length cap) ss.length (cvals ss)):HoldsK cv 3 w blk 0 ss.toArray:=by
 intro t ht
 have ht':t<ss.length*3:=by simpa using ht
 rw [Nat.zero_add]
 refine ⟨?_,h.frozenAt t⟩
 rw [h.cellAt t ht',Sort.get_flatK _ _ _ _ (by simpa using ht')]
 have hd:t / 3<ss.length:=by omega
 have e1:t=t / 3*3+t % 3:=by omega
 have e2:=cvals_get ss (t / 3) (t % 3) hd (by omega)
 rw [←e1] at e2
 rw [e2]
 have e3:ss.toArray[t / 3]! = ss[t / 3]:=by simp [hd]
 rw [e3,List.getElem?_eq_getElem (by show t % 3<3;omega)]
 simp [cv,show t % 3<3 by omega]
theorem order:SWO (ltOf cmpC) where
 irrefl x:=by
  unfold ltOf
  rw [decide_eq_false_iff_not,cmpC_lt]
  omega
 trans x y z h1 h2:=by
  unfold ltOf at *
  rw [decide_eq_true_eq,cmpC_lt] at *
  omega
 ntrans x y z h1 h2:=by
  unfold ltOf at *
  rw [decide_eq_false_iff_not,cmpC_lt] at *
  omega
theorem cmpLays (blk off size:Nat) (w:World):CmpLays Tryz.prog 137 #[] cv 3 cmpC blk off size w:=fun m os dk hs x y=>by
 refine (Gr.implComparePlaces x y _).mono ?_
 rintro e w' ⟨rfl,rfl⟩
 refine ⟨rfl,1,#[.cells #[.int .i64 x.inst,.int .i64 x.step,.int .i64 x.user] 143]++#[.cells #[.int .i64 y.inst,.int .i64 y.step,.int .i64 y.user] 143]++#[.cells #[.int .i64 (cmpI x.inst y.inst),.int .i64 (cmpI x.step y.step)] 3],?_⟩
 rw [Sort.alloc_eq_grow,Sort.alloc_eq_grow,Sort.alloc_eq_grow,Sort.grow_grow,Sort.grow_grow,Sort.drew_grow]
 rfl
theorem heap_other {w:World} {blk n:Nat} {d:Array ClD} {os:Array Obj} {k:Nat} (hk:k<w.heap.size) (hne:k≠blk):(sortWorldK cv 3 w blk 0 n d os).heap[k]?=w.heap[k]?:=by
 unfold sortWorldK
 rw [Sort.heap_grow_old _ _ (by rw [Sort.size_putRowK];exact hk)]
 have:blk≠k:=fun e=>hne e.symm
 simp [Sort.putRowK,Sort.putRow,Sort.mapBlock,Sort.ahead,Array.getElem?_modify,this]
theorem sorted_block {w:World} {blk n:Nat} {d:Array ClD} {os:Array Obj} {cur:Array Value} {e:TypeId} (h:w.heap[blk]?=some (.cells cur e (0,0))):
    ∃cur':Array Value,(sortWorldK cv 3 w blk 0 n d os).heap[blk]?=some (.cells cur' e (0,0))∧cur'.size=cur.size:=by
 have hl:=(Array.getElem?_eq_some_iff.1 h).1
 refine ⟨Sort.putCells id 0 (flatK cv 3 d) cur,?_,by simp [Sort.putCells]⟩
 unfold sortWorldK
 rw [Sort.heap_grow_old _ _ (by rw [Sort.size_putRowK];exact hl)]
 simp [Sort.putRowK,Sort.putRow,Sort.mapBlock,Sort.ahead,Array.getElem?_modify,h,Sort.onCells]
theorem cvals_len:∀ss:List ClD,(cvals ss).length=ss.length*3
 | []=>rfl
 | a :: r=>by
  have:=cvals_len r
  unfold cvals at this ⊢
  rw [List.flatMap_cons,List.length_append,this,List.length_cons];simp [cv];omega
theorem own_of_cells {w:World} {B blk cap:Nat} {cur:Array Value} {ss:List ClD} {e:TypeId} (hb:w.heap[blk]?=some (.cells cur e (0,0))) (hs:cur.size=cap*3) (hle:ss.length≤cap) (hm:cap≤maxLen) (hB:B≤blk)
    (hc:∀i (h:i<ss.length) c,c<3→w.cell? ⟨blk,i*3+c,none⟩=(cv ss[i])[c]?):w.ownsRow B e 3 (.slice (some ⟨blk,0,none⟩) ss.length cap) ss.length (cvals ss):=by
 refine ⟨cvals_len ss,.inr ⟨blk,cap,cur,rfl,hB,hb,hle,hm,hs,List.ext_getElem? (fun j=>?_)⟩⟩
 rcases Nat.lt_or_ge j (ss.length*3) with hj | hj
 ·rw [List.getElem?_take_of_lt hj,Array.getElem?_toList]
  have hd:j / 3<ss.length:=by omega
  have e1:j=j / 3*3+j % 3:=by omega
  have h1:=hc (j / 3) hd (j % 3) (by omega)
  have h2:=cvals_get ss (j / 3) (j % 3) hd (by omega)
  rw [←e1] at h1 h2
  rw [h2,←h1]
  simp [World.cell?,hb]
 ·rw [List.getElem?_eq_none (by simp;omega),List.getElem?_eq_none (by rw [cvals_len];exact hj)]
set_option maxRecDepth 100000 in
set_option maxHeartbeats 1600000 in
theorem sortRow (B blk cap:Nat) (xs:List ClD) (w:World) (h:COwn w B (.slice (some ⟨blk,0,none⟩) xs.length cap) xs) (hl:xs.length≤1000000000000):
    Calls Tryz.prog 136 #[.slice (some ⟨blk,0,none⟩) xs.length cap,.func (.func 137) #[] #[]] w fun e w'=>(∃r,e=.returned r)∧∃ss:List ClD,ss.length=xs.length∧ss.Perm xs∧ss.Pairwise (fun x y=>¬cmpC y x<0)∧COwn w' B (.slice (some ⟨blk,0,none⟩) ss.length cap) ss∧w.heap.size≤w'.heap.size∧(∀b,b<w.heap.size→b≠blk→w'.heap[b]?=w.heap[b]?)∧w'.os=w.os∧w'.tape=w.tape∧w'.output=w.output:=by
 have hbl:blk<w.heap.size:=(h.lt (b:=blk) rfl).2
 have hH:=holds_of h
 have hcap:=h.at'.cap
 have hS:=AnyQ.slices_SortFunc Tryz.sortClaims 3 Tryz.isAgg143 Tryz.sizeOf143 cv (fun _=>rfl) (fun x v hv=>by simp [cv] at hv;rcases hv with rfl | rfl | rfl <;> rfl) cmpC order 137 #[] blk 0 cap xs.toArray w (enters_of Tryz.func137 (by kernel_rfl) rfl) (cmpLays blk 0 xs.toArray.size w) hH hbl (by simp;omega)
 change Calls Tryz.prog 136 _ _ _ at hS
 simp only [List.size_toArray] at hS
 refine hS.mono ?_
 rintro e w2 ⟨rfl,d',n,os,hpm,hso,rfl⟩
 have hsz:d'.size=xs.length:=by have:=hpm.1;simpa using this
 have HH2:HoldsK cv 3 (sortWorldK cv 3 w blk 0 n d' os) blk 0 d':=holdsK_sortWorldK_c cv 3 w blk 0 xs.toArray d' n os hH hbl (by simp [hsz])
 have hd:∀i (h:i<d'.toList.length),d'[i]! = d'.toList[i]:=fun i h=>by
  have h2:i<d'.size:=by simpa using h
  rw [getElem!_pos d' i h2]
  simp
 have hlt:d'.toList.length=xs.length:=by simp [hsz]
 refine ⟨⟨_,rfl⟩,d'.toList,hlt,?_,?_,?_,size_sortWorldK_c cv 3 w blk 0 n d' os,fun k hk hne=>heap_other hk hne,rfl,rfl,rfl⟩
 ·have h2:=hpm.2.2
  have e1:d'.extract 0 xs.length=d':=by rw [←hsz];simp
  have e2:xs.toArray.extract 0 xs.length=xs.toArray:=by simp
  rw [e1,e2] at h2
  exact h2
 ·refine List.pairwise_iff_getElem.2 (fun i j hi hj hij=>?_)
  have h3:=hso i j (Nat.zero_le _) hij (by omega)
  rw [hd i hi,hd j hj] at h3
  unfold ltOf at h3
  simpa using h3
 ·unfold COwn at h
  obtain ⟨_,⟨e1,_⟩ | ⟨g,cap2,cur,e1,hB,hg,hle,hm,hs,_⟩⟩:=h
  ·cases e1
  ·cases e1
   obtain ⟨cur',hb',hs'⟩:=sorted_block (n:=n) (d:=d') (os:=os) hg
   refine own_of_cells hb' (by rw [hs',hs]) (by rw [hlt];exact hle) hm hB (fun i hi c hc=>?_)
   have hi2:i<d'.size:=by simpa using hi
   have a0:=(HH2.cell (i:=i) (c:=c) hi2 hc).1
   rw [hd i hi,Nat.zero_add] at a0
   have hc3:c<(cv d'.toList[i]).length:=hc
   rw [a0,List.getElem?_eq_getElem hc3,getElem!_pos _ c hc3]
end Ds
end Go.Proofs.YtccklgopcjilcaaGreatDoor
/- Taking a task out of a table; a table's length. Plainly: claims in order are the list itself. -/
namespace Go.Proofs.YtccklgopcjilcaaGreatDoor
open Go.RowKit
set_option linter.unusedVariables false
namespace Mp
open Go.ChangeMaps (setBlock heap_setBlock_same heap_setBlock_other)
open Go.MapKept (Stamped stamped_erase)
theorem At.len {w:World} {b:Nat} {E:List Ent} (h:At w b E) (ty:TypeId):(Builtin.len_ #[149] ty #[.map (some b)]).run Tryz.prog w=.ok (.int .i64 (E.length:Int)) w:=by
 have ht:Tryz.prog.underlying 149=some (.map 147 2):=by kernel_rfl
 obtain ⟨es,clock,hb,_,he,_⟩:=h
 have:es.size=E.length:=by have:=congrArg List.length he;simpa using this
 simp [Builtin.len_,run_underlying ht,MapKept.run_getObj_map hb,Result.andThen,goInt,this]
end Mp
namespace Ds
open Cl (ClD)
open Dk (aheadC ahead_iff CJ CJ_eq rise claimC ents ent)
def Rise (cs:List ClD):Prop:=cs.Pairwise (fun a b=>aheadC a b=true)
theorem rise_of {e:En.EngD} {cs:List ClD} (h:∀j,j<cs.length→claimC e cs j=0):Rise cs:=
 List.pairwise_iff_getElem.2 (fun i j hi hj hij=>by have:=rise h i j hij hj;rw [CJ_eq hi,CJ_eq hj] at this;exact this)
theorem ahead_cmpC {a b:ClD}:aheadC a b=true↔cmpC a b<0:=by rw [ahead_iff,cmpC_lt]
theorem ahead_not {a b:ClD} (h:aheadC a b=true):¬cmpC b a<0:=by
 rw [ahead_iff] at h;rw [cmpC_lt];omega
theorem same_of {ss cs:List ClD} (hp:ss.Perm cs) (hs:ss.Pairwise (fun x y=>¬cmpC y x<0)) (hr:Rise cs):ss=cs:=by
 refine hp.eq_of_pairwise (le:=fun x y=>¬cmpC y x<0) (fun a b ha hb h1 h2=>?_) hs (hr.imp ahead_not)
 obtain ⟨i,hi,rfl⟩:=List.getElem_of_mem (hp.mem_iff.1 ha)
 obtain ⟨j,hj,rfl⟩:=List.getElem_of_mem hb
 rcases Nat.lt_trichotomy i j with h | h | h
 ·exact absurd (ahead_cmpC.1 (List.pairwise_iff_getElem.1 hr i j hi hj h)) h2
 ·simp only [h]
 ·exact absurd (ahead_cmpC.1 (List.pairwise_iff_getElem.1 hr j i hj hi h)) h1
def without (cs:List ClD) (i s:Int):List ClD:=cs.filter (fun c=>decide (¬(c.inst=i∧c.step=s)))
theorem Rise.without {cs:List ClD} (h:Rise cs) (i s:Int):Rise (without cs i s):=h.sublist List.filter_sublist
theorem ents_without (cs:List ClD) (i s:Int):(ents cs).filter (fun q=>decide (q.1≠(i,s)))=ents (without cs i s):=by
 unfold ents without
 rw [List.filter_map]
 congr 1
 refine List.filter_congr (fun c _=>?_)
 simp [ent]
def insertC (cs:List ClD) (x:ClD):List ClD:=cs.takeWhile (fun c=>aheadC c x)++x :: cs.dropWhile (fun c=>aheadC c x)
theorem insert_perm (cs:List ClD) (x:ClD):(insertC cs x).Perm (cs++[x]):=by
 unfold insertC
 refine List.perm_middle.trans ?_
 rw [List.takeWhile_append_dropWhile]
 exact (List.perm_append_comm (l₁:=cs) (l₂:=[x])).symm
theorem ents_snoc (cs:List ClD) (x:ClD):ents cs++[((x.inst,x.step),.int .i64 x.user)]=ents (cs++[x]):=by
 unfold ents
 rw [List.map_append]
 rfl
theorem insert_rise:∀(cs:List ClD) (x:ClD),Rise cs→(∀c∈cs,¬(c.inst=x.inst∧c.step=x.step))→Rise (insertC cs x)
 | [],x,_,_=>by unfold insertC Rise;simp
 | c :: r,x,h,hn=>by
  unfold Rise at h
  rw [List.pairwise_cons] at h
  cases hc:aheadC c x
  ·have hxc:aheadC x c=true:=by
    rw [ahead_iff]
    have h1:=hn c (by simp)
    have h2:¬_:=fun e=>by rw [ahead_iff.2 e] at hc;cases hc
    omega
   have e1:insertC (c :: r) x=x :: c :: r:=by unfold insertC;simp [hc]
   rw [e1]
   unfold Rise
   refine List.pairwise_cons.2 ⟨fun y hy=>?_,List.pairwise_cons.2 h⟩
   rcases List.mem_cons.1 hy with rfl | hy
   ·exact hxc
   ·exact Dk.ahead_trans hxc (h.1 y hy)
  ·have e1:insertC (c :: r) x=c :: insertC r x:=by unfold insertC;simp [hc]
   rw [e1]
   have ih:=insert_rise r x h.2 (fun y hy=>hn y (by simp [hy]))
   unfold Rise at ih ⊢
   refine List.pairwise_cons.2 ⟨fun y hy=>?_,ih⟩
   have:=(insert_perm r x).mem_iff.1 hy
   rcases List.mem_append.1 this with h2 | h2
   ·exact h.1 y h2
   ·simp at h2;rw [h2];exact hc
end Ds
end Go.Proofs.YtccklgopcjilcaaGreatDoor
/- Who asks for a task: the program's claimsAskedBy and claimsHeldBy. -/
namespace Go.Proofs.YtccklgopcjilcaaGreatDoor
open Go.RowKit Go.Deep
set_option linter.unusedVariables false
set_option linter.unusedSimpArgs false
namespace Dk
open En (EngD)
open Cl (ClD)
open Eg (engC)
open Ex (hid)
open Pf (Rul)
open Ch (blk_cell blk_lt new_blk new_at)
def askC (d:DeskD) (u i s:Int):Int:=if deskC d≠0 then deskC d else if (isU u&&hasI d.eng i)=false then 3 else if openT d.eng i s=true then 0 else 4
theorem ask_desk {d:DeskD} {u i s:Int} (h:deskC d≠0):askC d u i s=deskC d:=by unfold askC;rw [if_pos h]
theorem ask_range {d:DeskD} {u i s:Int} (h:deskC d=0) (h2:(isU u&&hasI d.eng i)=false):askC d u i s=3:=by unfold askC;rw [if_neg (by simp [h]),if_pos h2]
theorem ask_none {d:DeskD} {u i s:Int} (h:deskC d=0) (h2:(isU u&&hasI d.eng i)=true) (h3:openT d.eng i s=false):askC d u i s=4:=by unfold askC;rw [if_neg (by simp [h]),if_neg (by simp [h2]),if_neg (by simp [h3])]
theorem ask_ok {d:DeskD} {u i s:Int} (h:deskC d=0) (h2:(isU u&&hasI d.eng i)=true) (h3:openT d.eng i s=true):askC d u i s=0:=by unfold askC;rw [if_neg (by simp [h]),if_neg (by simp [h2]),if_pos h3]
theorem of_ask {d:DeskD} {u i s:Int} (h:askC d u i s=0):deskC d=0∧isU u=true∧hasI d.eng i=true∧openT d.eng i s=true:=by
 by_cases h1:deskC d=0
 ·cases h2:(isU u&&hasI d.eng i)
  ·rw [ask_range h1 h2] at h;cases h
  ·cases h3:openT d.eng i s
   ·rw [ask_none h1 h2 h3] at h;cases h
   ·rw [Bool.and_eq_true] at h2;exact ⟨h1,h2.1,h2.2,rfl⟩
 ·rw [ask_desk h1] at h;exact absurd h h1
def TPost (c:Int) (d:DeskD) (w:World) (z:Ending) (w':World):Prop:=
 ((c≠0∧z=.returned (.tuple #[.map none,.int .i64 c]))∨(c=0∧∃M,z=.returned (.tuple #[.map (some M),.int .i64 0])∧Mp.At w' M (ents d.claims)∧w.heap.size≤M))∧Below w.heap.size w w'
theorem TPost.bad {d:DeskD} {w w':World} {c c':Int} (h:c'=c) (hc:c≠0) (hb:Below w.heap.size w w'):TPost c' d w (.returned (.tuple #[.map none,.int .i64 c])) w':=⟨.inl ⟨by rw [h];exact hc,by rw [h]⟩,hb⟩
theorem TPost.good {d:DeskD} {w w':World} {c:Int} {M:Nat} (h:c=0) (hm:Mp.At w' M (ents d.claims)) (hM:w.heap.size≤M) (hb:Below w.heap.size w w'):TPost c d w (.returned (.tuple #[.map (some M),.int .i64 0])) w':=⟨.inr ⟨h,M,rfl,hm,hM⟩,hb⟩
set_option maxRecDepth 100000 in
set_option maxHeartbeats 8000000 in
theorem implAskedBy (d:DeskD) (u i s:Int) (vp vi vc:Value) (w:World) (hs:Small 1048576 d) (ha:At w 0 vp vi vc d) (hr:Rul w):
    Calls Tryz.prog 87 #[.agg #[vp,vi,.int .i64 d.eng.now,vc],.int .i64 u,.agg #[.int .i64 i,.int .i64 s]] w (TPost (askC d u i s) d w):=by
 obtain ⟨⟨a1,k1,rfl⟩,⟨a2,k2,rfl⟩,a3,k3,rfl⟩:=ha.slices
 have hl2:=hs.eng.insts.1
 obtain ⟨w0,e0⟩:∃w0,w0=(w.alloc (.cells #[.slice a1 d.eng.procs.length k1,.slice a2 d.eng.insts.length k2,.int .i64 d.eng.now,.slice a3 d.claims.length k3] 30)).alloc (.cells #[.int .i64 i,.int .i64 s] 147):=⟨_,rfl⟩
 have hb0:Below w.heap.size w w0:=by rw [e0];exact ((Below.refl _ w).alloc (Nat.le_refl _) _).alloc (by simp) _
 have HK0:Hid (w0.heap[w.heap.size]?=some (.cells #[.slice a1 d.eng.procs.length k1,.slice a2 d.eng.insts.length k2,.int .i64 d.eng.now,.slice a3 d.claims.length k3] 30)∧w0.heap[w.heap.size+1]?=some (.cells #[.int .i64 i,.int .i64 s] 147)):=hid ⟨by rw [e0,Below.heap_alloc _ _ _ (by simp),new_blk],by rw [e0];exact new_at (by simp) _⟩
 have HC:=hid (implClaimsOn d _ _ _ w0 hs (ha.below hb0) (hr.below hb0 hr.lt))
 have HA:=hid (ha.below hb0)
 have HB0:=hid hb0
 have HS:=hid hs
 have hw0:Hid (w.heap.size≤w0.heap.size):=hid hb0.size
 clear ha hb0 hs hr
 go_enter Tryz.func87,Tryz.ntmps87
 go_wp2_with fail
 rw [←e0]
 clear e0
 refine HC.out.mono ?_
 rintro z w1 ⟨h,hb1⟩
 have HB1:=hid (HB0.out.trans (hb1.mono HB0.out.size))
 have HK1:Hid (w1.heap[w.heap.size]?=some (.cells #[.slice a1 d.eng.procs.length k1,.slice a2 d.eng.insts.length k2,.int .i64 d.eng.now,.slice a3 d.claims.length k3] 30)∧w1.heap[w.heap.size+1]?=some (.cells #[.int .i64 i,.int .i64 s] 147)):=hid ⟨(hb1.block _ (blk_lt HK0.out.1)).trans HK0.out.1,(hb1.block _ (blk_lt HK0.out.2)).trans HK0.out.2⟩
 have HA1:=hid (HA.out.below hb1)
 clear hb1 HK0 HA HC HB0
 rcases h with ⟨h1,rfl⟩ | ⟨h1,M,rfl,h2,h3⟩
 ·have HX:=hid (ask_desk (u:=u) (i:=i) (s:=s) h1)
  have HN:=hid h1
  have b0:(deskC d != 0)=true:=bne_iff_ne.2 h1
  generalize deskC d=pc at *
  clear h1
  go_wp2
  go_ret2
  exact TPost.bad HX.out HN.out HB1.out
 have HD:=hid h1
 have HM:=hid h2
 have HL:=hid (Nat.le_trans hw0.out h3)
 have HKE:=hid (of_d h1).1
 clear h1 h2 h3
 go_wp2_with fail
 refine (implIsUser u _).mono ?_
 rintro z w2 ⟨rfl,hw2⟩
 replace hw2:=hw2.symm
 subst hw2
 cases hu:isU u
 ·have HX:=hid (ask_range (s:=s) HD.out (show (isU u&&hasI d.eng i)=false by rw [hu];rfl))
  clear hu
  go_wp2
  go_ret2
  exact TPost.bad HX.out (by decide) HB1.out
 have HH:=hid (implHasInst d.eng _ _ i 0 w1 (by omega) HA1.out.eng)
 have m0:=blk_cell HK1.out.1 0
 have m1:=blk_cell HK1.out.1 1
 have m2:=blk_cell HK1.out.1 2
 have m3:=blk_cell HK1.out.2 0
 have ml:=blk_lt HK1.out.1
 have ml2:=blk_lt HK1.out.2
 go_wp2_with fail
 refine HH.out.mono ?_
 rintro z w2 ⟨rfl,hb2⟩
 have HB2:=hid (HB1.out.trans (hb2.mono HB1.out.size))
 have HK2:Hid (w2.heap[w.heap.size]?=some (.cells #[.slice a1 d.eng.procs.length k1,.slice a2 d.eng.insts.length k2,.int .i64 d.eng.now,.slice a3 d.claims.length k3] 30)∧w2.heap[w.heap.size+1]?=some (.cells #[.int .i64 i,.int .i64 s] 147)):=hid ⟨(hb2.block _ (blk_lt HK1.out.1)).trans HK1.out.1,(hb2.block _ (blk_lt HK1.out.2)).trans HK1.out.2⟩
 have HA2:=hid (HA1.out.below hb2)
 have HM2:=hid (HM.out.keep (hb2.block M HM.out.lt))
 clear hb2 HK1 HA1 HM HB1 m0 m1 m2 m3 ml ml2 HH
 cases hx:hasI d.eng i
 ·have HX:=hid (ask_range (s:=s) HD.out (show (isU u&&hasI d.eng i)=false by rw [hx,Bool.and_false]))
  clear hu hx
  go_wp2
  go_ret2
  exact TPost.bad HX.out (by decide) HB2.out
 have HUX:Hid ((isU u&&hasI d.eng i)=true):=hid (by rw [hu,hx];rfl)
 obtain ⟨i0,i1,i2⟩:=hasI_in hx
 have HO:=hid (implIsOpen d.eng _ _ i.toNat s 0 w2 HS.out.eng HA2.out.eng i1 HKE.out)
 have ei:((i.toNat:Nat):Int)=i:=Int.toNat_of_nonneg i0
 rw [ei] at HO
 have m0:=blk_cell HK2.out.1 0
 have m1:=blk_cell HK2.out.1 1
 have m2:=blk_cell HK2.out.1 2
 have m3:=blk_cell HK2.out.2 0
 have m4:=blk_cell HK2.out.2 1
 have ml:=blk_lt HK2.out.1
 have ml2:=blk_lt HK2.out.2
 clear hx hu ei i0 i1 i2
 go_wp2_with fail
 refine HO.out.mono ?_
 rintro z w3 ⟨rfl,hb3⟩
 have HB3:=hid (HB2.out.trans (hb3.mono HB2.out.size))
 have HM3:=hid (HM2.out.keep (hb3.block M HM2.out.lt))
 clear hb3 m0 m1 m2 m3 m4 ml ml2 HO
 cases ho:openT d.eng i s
 ·have HX:=hid (ask_none HD.out HUX.out ho)
  clear ho
  go_wp2
  go_ret2
  exact TPost.bad HX.out (by decide) HB3.out
 ·have HX:=hid (ask_ok HD.out HUX.out ho)
  clear ho
  go_wp2
  go_ret2
  exact TPost.good HX.out HM3.out HL.out HB3.out
end Dk
end Go.Proofs.YtccklgopcjilcaaGreatDoor
/- Offers, plainly: who claims a task, and the tasks that are open and not claimed, by instance, then step. -/
namespace Go.Proofs.YtccklgopcjilcaaGreatDoor
open Go.RowKit Go.Deep
set_option linter.unusedVariables false
namespace Of
open Dk (DeskD deskC openT openP open_lt instD instD_eq hasI inst_ok of_d of_claims of_claim of_one CJ CJ_eq isU ents ent open_len)
open Cl (ClD)
open En (EngD)
open Eg (engC stepsD stepsD_eq hasP_in of_e)
def isAt (c:ClD) (i s:Int):Bool:=c.inst==i&&c.step==s
def who:List ClD→Int→Int→Int
 | [],_,_=>0
 | c :: l,i,s=>if isAt c i s=true then c.user else who l i s
theorem who_step {cs:List ClD} {i s:Int} {k:Nat} (h:k<cs.length):who (cs.drop k) i s=if isAt cs[k] i s=true then cs[k].user else who (cs.drop (k+1)) i s:=by
 rw [List.drop_eq_getElem_cons h];rfl
theorem who_yes {cs:List ClD} {i s:Int} {k:Nat} (h:k<cs.length) (h2:isAt cs[k] i s=true):who (cs.drop k) i s=cs[k].user:=by rw [who_step h,if_pos h2]
theorem who_no {cs:List ClD} {i s:Int} {k:Nat} (h:k<cs.length) (h2:isAt cs[k] i s=false):who (cs.drop k) i s=who (cs.drop (k+1)) i s:=by rw [who_step h,if_neg (by simp [h2])]
theorem who_end {cs:List ClD} {i s:Int} {k:Nat} (h:cs.length≤k):who (cs.drop k) i s=0:=by rw [List.drop_eq_nil_of_le h];rfl
theorem who_or:∀(cs:List ClD) (i s:Int),((((i,s),Value.int .i64 (who cs i s)):Mp.Ent)∈ents cs)∨((i,s) ∉ (ents cs).map (·.1)∧who cs i s=0)
 | [],i,s=>.inr ⟨by simp [ents],rfl⟩
 | c :: l,i,s=>by
  by_cases h:isAt c i s=true
  ·left
   unfold who
   rw [if_pos h]
   unfold isAt at h
   simp at h
   simp [ents,ent,h.1,h.2]
  ·unfold who
   rw [if_neg h]
   rcases who_or l i s with h1 | ⟨h1,h2⟩
   ·left
    unfold ents at h1 ⊢
    rw [List.map_cons]
    exact List.mem_cons_of_mem _ h1
   ·right
    refine ⟨?_,h2⟩
    unfold ents at h1 ⊢
    rw [List.map_cons,List.map_cons,List.mem_cons,not_or]
    refine ⟨fun e=>h ?_,h1⟩
    unfold ent at e
    simp at e
    unfold isAt
    simp [e.1,e.2]
end Of
end Go.Proofs.YtccklgopcjilcaaGreatDoor
