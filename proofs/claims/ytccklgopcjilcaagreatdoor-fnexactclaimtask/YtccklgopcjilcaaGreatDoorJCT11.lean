/- Laid together: ChM, EpA. -/
import Derived.Test.YtccklgopcjilcaaGreatDoorJCT9
import Derived.Test.YtccklgopcjilcaaGreatDoorJCT10
import Derived.Test.YtccklgopcjilcaaGreatDoorJCT8
/- The law's copy of a chart owns its rows; its marks. -/
namespace Go.Proofs.YtccklgopcjilcaaGreatDoor
open Go.RowKit Go.Deep
set_option linter.unusedVariables false
namespace Ch
open St (Amid row_size)
def OwnL (w:World) (B:Nat) (v:Value) (m:Nat):Prop:=∃g f,v=.slice (some ⟨g,0,none⟩) m m∧B≤g∧w.rowIs g 2 (m*1) f
theorem OwnL.below {w w':World} {B:Nat} {v:Value} {m:Nat} (h:OwnL w B v m) (hb:Below w.heap.size w w'):OwnL w' B v m:=by
 obtain ⟨g,f,rfl,h1,h2⟩:=h
 exact ⟨g,f,rfl,h1,h2.of_block (hb.block g h2.lt)⟩
theorem OwnL.mono {w:World} {B B':Nat} {v:Value} {m:Nat} (h:OwnL w B v m) (hb:B'≤B):OwnL w B' v m:=by
 obtain ⟨g,f,rfl,h1,h2⟩:=h
 exact ⟨g,f,rfl,Nat.le_trans hb h1,h2⟩
structure NO (w:World) (B:Nat) (v:Value) (xs:List Int):Prop where
 at':Nu.At w B v xs
 own:OwnL w B v xs.length
theorem NO.below {w w':World} {B:Nat} {v:Value} {xs:List Int} (h:NO w B v xs) (hb:Below w.heap.size w w'):NO w' B v xs:=⟨h.at'.below hb,h.own.below hb⟩
theorem NO.mono {w:World} {B B':Nat} {v:Value} {xs:List Int} (h:NO w B v xs) (hb:B'≤B):NO w B' v xs:=⟨h.at'.mono hb,h.own.mono hb⟩
theorem NO.slice {w:World} {B:Nat} {v:Value} {xs:List Int} (h:NO w B v xs):∃a cap,v=.slice a xs.length cap:=h.at'.slice
theorem NO.setBelow {w:World} {B:Nat} {v:Value} {xs:List Int} (h:NO w B v xs) {b o:Nat} (ha:b<B) (x:Value):NO (w.setCell ⟨b,o,none⟩ x) B v xs:=by
 refine ⟨h.at'.setBelow ha x,?_⟩
 obtain ⟨g,f,rfl,h1,h2⟩:=h.own
 exact ⟨g,f,rfl,h1,h2.of_block (Below.heap_setCell _ _ _ _ (by dsimp only;omega))⟩
theorem no5 {B:Nat} {w:World} {v:Value} {xs:List Int} (h:NO w B v xs) {b:Nat} (hb:b<B) (a0 a1 a2 a3 a4:Value):NO (((((w.setCell ⟨b,0,none⟩ a0).setCell ⟨b,1,none⟩ a1).setCell ⟨b,2,none⟩ a2).setCell ⟨b,3,none⟩ a3).setCell ⟨b,4,none⟩ a4) B v xs:=
 ((((h.setBelow hb _).setBelow hb _).setBelow hb _).setBelow hb _).setBelow hb _
theorem NO.toS (B:Nat) (xs:List Int) (v:Value) (w:World) (hl:xs.length≤1048576) (ha:Nu.At w B v xs):
    Calls Tryz.prog 190 #[v] w fun e w'=>∃v',e=.returned v'∧NO w' w.heap.size v' xs∧Below w.heap.size w w':=
 (Nu.toS2 B xs v w hl ha).mono (fun e w' ⟨v',h1,h2,⟨g,f,h3,h4,h5,h6⟩,h7⟩=>⟨v',h1,⟨h2,g,f,h3,h4,h6⟩,h7⟩)
structure AtO (w:World) (B:Nat) (v1 v2 v3:Value) (r:RunD):Prop where
 vars:NO w B v1 r.vars
 marks:NO w B v2 r.marks
 dues:NO w B v3 r.dues
theorem AtO.at' {w:World} {B:Nat} {v1 v2 v3:Value} {r:RunD} (h:AtO w B v1 v2 v3 r):At w B v1 v2 v3 r:=⟨h.vars.at',h.marks.at',h.dues.at'⟩
theorem AtO.below {w w':World} {B:Nat} {v1 v2 v3:Value} {r:RunD} (h:AtO w B v1 v2 v3 r) (hb:Below w.heap.size w w'):AtO w' B v1 v2 v3 r:=⟨h.vars.below hb,h.marks.below hb,h.dues.below hb⟩
set_option maxRecDepth 100000 in
set_option maxHeartbeats 8000000 in
theorem to2 (B:Nat) (r:RunD) (v1 v2 v3:Value) (w:World) (hl:Small 1048576 r) (ha:At w B v1 v2 v3 r):
    Calls Tryz.prog 158 #[.agg #[.int .i64 r.status,.int .i64 r.now,v1,v2,v3]] w fun e w'=>∃u1 u2 u3,e=.returned (.agg #[.int .i64 r.status,.int .i64 r.now,u1,u2,u3])∧AtO w' w.heap.size u1 u2 u3 r∧Below w.heap.size w w':=by
 obtain ⟨a1,k1,rfl⟩:=ha.vars.slice
 obtain ⟨a2,k2,rfl⟩:=ha.marks.slice
 obtain ⟨a3,k3,rfl⟩:=ha.dues.slice
 have HL:=hid hl
 have KB:Hid (Below w.heap.size w (((w.alloc (.cells #[.int .i64 r.status,.int .i64 r.now,.slice a1 r.vars.length k1,.slice a2 r.marks.length k2,.slice a3 r.dues.length k3] 179)).alloc (.cells #[.int .i64 0,.int .i64 0,.slice none 0 0,.slice none 0 0,.slice none 0 0] 112)).alloc (.cells #[.int .i64 r.status,.int .i64 r.now,.slice none 0 0,.slice none 0 0,.slice none 0 0] 112))):=hid ((((Below.refl _ w).alloc (Nat.le_refl _) _).alloc (by simp) _).alloc (by simp;omega) _)
 have K0:Hid ((((w.alloc (.cells #[.int .i64 r.status,.int .i64 r.now,.slice a1 r.vars.length k1,.slice a2 r.marks.length k2,.slice a3 r.dues.length k3] 179)).alloc (.cells #[.int .i64 0,.int .i64 0,.slice none 0 0,.slice none 0 0,.slice none 0 0] 112)).alloc (.cells #[.int .i64 r.status,.int .i64 r.now,.slice none 0 0,.slice none 0 0,.slice none 0 0] 112)).heap[w.heap.size]?=some (.cells #[.int .i64 r.status,.int .i64 r.now,.slice a1 r.vars.length k1,.slice a2 r.marks.length k2,.slice a3 r.dues.length k3] 179)):=hid (by rw [Below.heap_alloc _ _ _ (by simp;omega),Below.heap_alloc _ _ _ (by simp),new_blk])
 have K1:Hid ((((w.alloc (.cells #[.int .i64 r.status,.int .i64 r.now,.slice a1 r.vars.length k1,.slice a2 r.marks.length k2,.slice a3 r.dues.length k3] 179)).alloc (.cells #[.int .i64 0,.int .i64 0,.slice none 0 0,.slice none 0 0,.slice none 0 0] 112)).alloc (.cells #[.int .i64 r.status,.int .i64 r.now,.slice none 0 0,.slice none 0 0,.slice none 0 0] 112)).heap[w.heap.size+1]?=some (.cells #[.int .i64 0,.int .i64 0,.slice none 0 0,.slice none 0 0,.slice none 0 0] 112)):=hid (by rw [Below.heap_alloc _ _ _ (by simp)];exact new_at (by simp) _)
 have K2:Hid ((((w.alloc (.cells #[.int .i64 r.status,.int .i64 r.now,.slice a1 r.vars.length k1,.slice a2 r.marks.length k2,.slice a3 r.dues.length k3] 179)).alloc (.cells #[.int .i64 0,.int .i64 0,.slice none 0 0,.slice none 0 0,.slice none 0 0] 112)).alloc (.cells #[.int .i64 r.status,.int .i64 r.now,.slice none 0 0,.slice none 0 0,.slice none 0 0] 112)).heap[w.heap.size+1+1]?=some (.cells #[.int .i64 r.status,.int .i64 r.now,.slice none 0 0,.slice none 0 0,.slice none 0 0] 112)):=hid (new_at (by simp) _)
 have HA:=hid ha
 clear ha hl
 go_enter Tryz.func158,Tryz.ntmps158
 go_wp2_with fail
 generalize ((w.alloc (.cells #[.int .i64 r.status,.int .i64 r.now,.slice a1 r.vars.length k1,.slice a2 r.marks.length k2,.slice a3 r.dues.length k3] 179)).alloc (.cells #[.int .i64 0,.int .i64 0,.slice none 0 0,.slice none 0 0,.slice none 0 0] 112)).alloc (.cells #[.int .i64 r.status,.int .i64 r.now,.slice none 0 0,.slice none 0 0,.slice none 0 0] 112)=w0 at *
 refine (NO.toS B r.vars _ w0 (by have:=HL.out.vars;omega) (HA.out.below KB.out).vars).mono ?_
 rintro e w1 ⟨u1,rfl,hu,hb⟩
 obtain ⟨x1,y1,rfl⟩:=hu.slice
 have KBx:=KB.out.trans (hb.mono KB.out.size)
 have z0:=blk_lt K2.out
 have K0x:=(hb.block _ (blk_lt K0.out)).trans K0.out
 have K1x:=(hb.block _ (blk_lt K1.out)).trans K1.out
 have K2x:=(hb.block _ (blk_lt K2.out)).trans K2.out
 have G0:=hid (blk_cell K2x 2)
 have g2:=blk_free K2x 2
 have z1:=blk_lt K2x
 have g1:w1.cell? ⟨w.heap.size+1+1,2,none⟩=some (.slice none 0 0):=by rw [G0.out];rfl
 have K01:=hid ((Below.heap_setCell w1 ⟨w.heap.size+1+1,2,none⟩ (.slice x1 r.vars.length y1) w.heap.size (by dsimp only;omega)).trans K0x)
 have K11:=hid ((Below.heap_setCell w1 ⟨w.heap.size+1+1,2,none⟩ (.slice x1 r.vars.length y1) (w.heap.size+1) (by dsimp only;omega)).trans K1x)
 have K21:Hid ((w1.setCell ⟨w.heap.size+1+1,2,none⟩ (.slice x1 r.vars.length y1)).heap[w.heap.size+1+1]?=some (.cells #[.int .i64 r.status,.int .i64 r.now,.slice x1 r.vars.length y1,.slice none 0 0,.slice none 0 0] 112)):=hid (by have:=blk_set (i:=2) K2x (.slice x1 r.vars.length y1);simpa using this)
 have KB1:Hid (Below w.heap.size w (w1.setCell ⟨w.heap.size+1+1,2,none⟩ (.slice x1 r.vars.length y1))):=hid (KBx.setCell (by dsimp only;omega) _)
 have HX11:Hid (NO (w1.setCell ⟨w.heap.size+1+1,2,none⟩ (.slice x1 r.vars.length y1)) (w.heap.size+1+1+1) (.slice x1 r.vars.length y1) r.vars):=hid ((hu.setBelow (b:=w.heap.size+1+1) (o:=2) (by omega) _).mono (by omega))
 have b1:(w1.setCell ⟨w.heap.size+1+1,2,none⟩ (.slice x1 r.vars.length y1)).cell? ⟨w.heap.size,3,none⟩=some (.slice a2 r.marks.length k2):=by rw [blk_cell K01.out];rfl
 have b2:=blk_lt K01.out
 clear hu hb KBx K0x K1x K2x G0 z0 KB K0 K1 K2
 go_wp2_with fail
 generalize w1.setCell ⟨w.heap.size+1+1,2,none⟩ (.slice x1 r.vars.length y1)=wA1 at *
 clear g1 g2 z1
 have b1p:=b1
 have b2p:=b2
 clear b1 b2
 refine (NO.toS B r.marks _ wA1 (by have:=HL.out.marks;omega) (HA.out.below KB1.out).marks).mono ?_
 rintro e w2 ⟨u2,rfl,hu,hb⟩
 obtain ⟨x2,y2,rfl⟩:=hu.slice
 have KBx:=KB1.out.trans (hb.mono KB1.out.size)
 have z0:=blk_lt K21.out
 have K0x:=(hb.block _ (blk_lt K01.out)).trans K01.out
 have K1x:=(hb.block _ (blk_lt K11.out)).trans K11.out
 have K2x:=(hb.block _ (blk_lt K21.out)).trans K21.out
 have G0:=hid (blk_cell K2x 3)
 have g2:=blk_free K2x 3
 have z1:=blk_lt K2x
 have g1:w2.cell? ⟨w.heap.size+1+1,3,none⟩=some (.slice none 0 0):=by rw [G0.out];rfl
 have K02:=hid ((Below.heap_setCell w2 ⟨w.heap.size+1+1,3,none⟩ (.slice x2 r.marks.length y2) w.heap.size (by dsimp only;omega)).trans K0x)
 have K12:=hid ((Below.heap_setCell w2 ⟨w.heap.size+1+1,3,none⟩ (.slice x2 r.marks.length y2) (w.heap.size+1) (by dsimp only;omega)).trans K1x)
 have K22:Hid ((w2.setCell ⟨w.heap.size+1+1,3,none⟩ (.slice x2 r.marks.length y2)).heap[w.heap.size+1+1]?=some (.cells #[.int .i64 r.status,.int .i64 r.now,.slice x1 r.vars.length y1,.slice x2 r.marks.length y2,.slice none 0 0] 112)):=hid (by have:=blk_set (i:=3) K2x (.slice x2 r.marks.length y2);simpa using this)
 have KB2:Hid (Below w.heap.size w (w2.setCell ⟨w.heap.size+1+1,3,none⟩ (.slice x2 r.marks.length y2))):=hid (KBx.setCell (by dsimp only;omega) _)
 have HX22:Hid (NO (w2.setCell ⟨w.heap.size+1+1,3,none⟩ (.slice x2 r.marks.length y2)) (w.heap.size+1+1+1) (.slice x2 r.marks.length y2) r.marks):=hid ((hu.setBelow (b:=w.heap.size+1+1) (o:=3) (by omega) _).mono (by omega))
 have HX12:Hid (NO (w2.setCell ⟨w.heap.size+1+1,3,none⟩ (.slice x2 r.marks.length y2)) (w.heap.size+1+1+1) (.slice x1 r.vars.length y1) r.vars):=hid ((HX11.out.below hb).setBelow (b:=w.heap.size+1+1) (o:=3) (by omega) _)
 have b1:(w2.setCell ⟨w.heap.size+1+1,3,none⟩ (.slice x2 r.marks.length y2)).cell? ⟨w.heap.size,4,none⟩=some (.slice a3 r.dues.length k3):=by rw [blk_cell K02.out];rfl
 have b2:=blk_lt K02.out
 clear hu hb KBx K0x K1x K2x G0 z0 KB1 K01 K11 K21 HX11 b1p b2p
 go_wp2_with fail
 generalize w2.setCell ⟨w.heap.size+1+1,3,none⟩ (.slice x2 r.marks.length y2)=wA2 at *
 clear g1 g2 z1
 have b1p:=b1
 have b2p:=b2
 clear b1 b2
 refine (NO.toS B r.dues _ wA2 (by have:=HL.out.dues;omega) (HA.out.below KB2.out).dues).mono ?_
 rintro e w3 ⟨u3,rfl,hu,hb⟩
 obtain ⟨x3,y3,rfl⟩:=hu.slice
 have KBx:=KB2.out.trans (hb.mono KB2.out.size)
 have z0:=blk_lt K22.out
 have K0x:=(hb.block _ (blk_lt K02.out)).trans K02.out
 have K1x:=(hb.block _ (blk_lt K12.out)).trans K12.out
 have K2x:=(hb.block _ (blk_lt K22.out)).trans K22.out
 have G0:=hid (blk_cell K2x 4)
 have g2:=blk_free K2x 4
 have z1:=blk_lt K2x
 have g1:w3.cell? ⟨w.heap.size+1+1,4,none⟩=some (.slice none 0 0):=by rw [G0.out];rfl
 have K03:=hid ((Below.heap_setCell w3 ⟨w.heap.size+1+1,4,none⟩ (.slice x3 r.dues.length y3) w.heap.size (by dsimp only;omega)).trans K0x)
 have K13:=hid ((Below.heap_setCell w3 ⟨w.heap.size+1+1,4,none⟩ (.slice x3 r.dues.length y3) (w.heap.size+1) (by dsimp only;omega)).trans K1x)
 have K23:Hid ((w3.setCell ⟨w.heap.size+1+1,4,none⟩ (.slice x3 r.dues.length y3)).heap[w.heap.size+1+1]?=some (.cells #[.int .i64 r.status,.int .i64 r.now,.slice x1 r.vars.length y1,.slice x2 r.marks.length y2,.slice x3 r.dues.length y3] 112)):=hid (by have:=blk_set (i:=4) K2x (.slice x3 r.dues.length y3);simpa using this)
 have KB3:Hid (Below w.heap.size w (w3.setCell ⟨w.heap.size+1+1,4,none⟩ (.slice x3 r.dues.length y3))):=hid (KBx.setCell (by dsimp only;omega) _)
 have HX33:Hid (NO (w3.setCell ⟨w.heap.size+1+1,4,none⟩ (.slice x3 r.dues.length y3)) (w.heap.size+1+1+1) (.slice x3 r.dues.length y3) r.dues):=hid ((hu.setBelow (b:=w.heap.size+1+1) (o:=4) (by omega) _).mono (by omega))
 have HX13:Hid (NO (w3.setCell ⟨w.heap.size+1+1,4,none⟩ (.slice x3 r.dues.length y3)) (w.heap.size+1+1+1) (.slice x1 r.vars.length y1) r.vars):=hid ((HX12.out.below hb).setBelow (b:=w.heap.size+1+1) (o:=4) (by omega) _)
 have HX23:Hid (NO (w3.setCell ⟨w.heap.size+1+1,4,none⟩ (.slice x3 r.dues.length y3)) (w.heap.size+1+1+1) (.slice x2 r.marks.length y2) r.marks):=hid ((HX22.out.below hb).setBelow (b:=w.heap.size+1+1) (o:=4) (by omega) _)
 clear hu hb KBx K0x K1x K2x G0 z0 KB2 K02 K12 K22 HX12 HX22 b1p b2p
 go_upto_region 7 with fail
 generalize w3.setCell ⟨w.heap.size+1+1,4,none⟩ (.slice x3 r.dues.length y3)=wA3 at *
 clear g1 g2 z1
 have c0:=(blk_cell K23.out 0)
 have c1:=(blk_cell K23.out 1)
 have c2:=(blk_cell K23.out 2)
 have c3:=(blk_cell K23.out 3)
 have c4:=(blk_cell K23.out 4)
 have d0:=(blk_cell K13.out 0)
 have d1:=(blk_cell K13.out 1)
 have d2:=(blk_cell K13.out 2)
 have d3:=(blk_cell K13.out 3)
 have d4:=(blk_cell K13.out 4)
 have f0:=(blk_free K13.out 0)
 have f1:=(blk_free K13.out 1)
 have f2:=(blk_free K13.out 2)
 have f3:=(blk_free K13.out 3)
 have f4:=(blk_free K13.out 4)
 simp at c0 c1 c2 c3 c4 d0 d1 d2 d3 d4
 have z0:=blk_lt K23.out
 have z1:=blk_lt K13.out
 go_wp2
 refine bodyPost_ret (results_cell_row Tryz.results158 _ _ (w.heap.size+1) 112 #[.int .i64 r.status,.int .i64 r.now,.slice x1 r.vars.length y1,.slice x2 r.marks.length y2,.slice x3 r.dues.length y3] (0,0) _ rfl (set5 K13.out _ _ _ _ _) Tryz.underlying112 rfl info5) rfl ⟨_,_,_,rfl,⟨?_,?_,?_⟩,?_⟩
 ·exact (no5 HX13.out (by omega) _ _ _ _ _).mono (by omega)
 ·exact (no5 HX23.out (by omega) _ _ _ _ _).mono (by omega)
 ·exact (no5 HX33.out (by omega) _ _ _ _ _).mono (by omega)
 ·exact below5 KB3.out (by omega) _ _ _ _ _
def OwnC (w:World) (B C:Nat) (v:Value) (m:Nat):Prop:=∃g f,v=.slice (some ⟨g,0,none⟩) m m∧B≤g∧g<C∧w.rowIs g 2 (m*1) f
theorem OwnC.below {w w':World} {B C:Nat} {v:Value} {m:Nat} (h:OwnC w B C v m) (hb:Below w.heap.size w w'):OwnC w' B C v m:=by
 obtain ⟨g,f,rfl,h1,h1',h2⟩:=h
 exact ⟨g,f,rfl,h1,h1',h2.of_block (hb.block g h2.lt)⟩
theorem OwnL.upto {w:World} {B:Nat} {v:Value} {m:Nat} (h:OwnL w B v m):OwnC w B w.heap.size v m:=by
 obtain ⟨g,f,rfl,h1,h2⟩:=h
 exact ⟨g,f,rfl,h1,h2.lt,h2⟩
structure Rows3 (w:World) (B C:Nat) (v1 v2 v3:Value) (r:RunD):Prop where
 vars:OwnC w B C v1 r.vars.length
 marks:OwnC w B C v2 r.marks.length
 dues:OwnC w B C v3 r.dues.length
theorem AtO.rows {w:World} {B:Nat} {v1 v2 v3:Value} {r:RunD} (h:AtO w B v1 v2 v3 r):Rows3 w B w.heap.size v1 v2 v3 r:=⟨h.vars.own.upto,h.marks.own.upto,h.dues.own.upto⟩
theorem Rows3.below {w w':World} {B C:Nat} {v1 v2 v3:Value} {r:RunD} (h:Rows3 w B C v1 v2 v3 r) (hb:Below w.heap.size w w'):Rows3 w' B C v1 v2 v3 r:=⟨h.vars.below hb,h.marks.below hb,h.dues.below hb⟩
set_option maxRecDepth 100000 in
set_option maxHeartbeats 4000000 in
theorem markL (g:Nat) (m:Nat) (f:Nat→Value) (k:Int) (w:World) (hm:m≤1048576) (h0:0<k) (hk:k≤17592186044416) (hr:w.rowIs g 2 (m*1) f):
    Calls Tryz.prog 126 #[.slice (some ⟨g,0,none⟩) m m,.int .i64 k] w fun e w'=>e=.returned (.int .i64 (k+(m:Int)))∧(∃f',w'.rowIs g 2 (m*1) f')∧Amid w w' g (g+1):=by
 have HR:=hid hr
 clear hr
 go_enter Tryz.func126,Tryz.ntmps126
 go_wp2
 go_loopw [1,5] (fun q i wr=>∃(j:Nat) (f':Nat→Value),i=.int .i64 j∧q=.int .i64 (k+(j:Int))∧j≤m∧Hid (wr.rowIs g 2 (m*1) f')∧Hid (Amid w wr g (g+1))) (fun _ i _=>m - (intOf i).toNat)
 case atStart=>exact ⟨0,f,rfl,by simp,Nat.zero_le _,HR,hid (Amid.refl _ _ _)⟩
 case round=>
  obtain ⟨j,f',rfl,rfl,hj,HW,HAM⟩:=hrel
  by_cases hlt:j<m
  ·have q1:(j:Int)<(m:Int):=by omega
   have d0:=HW.out.cell (i:=j) (by omega)
   have f0:=HW.out.frozen j
   have HR2:=hid (HW.out.set j (.int .i64 (k+(j:Int))))
   have HA2:=hid (HAM.out.trans (Amid.set wr j (.int .i64 (k+(j:Int))) (Nat.le_refl _) (Nat.lt_succ_self _)))
   go_wp2
   exact ⟨⟨j+1,_,by simp,by simp;omega,by omega,HR2,HA2⟩,by simp [intOf];omega⟩
  ·obtain rfl:j=m:=by omega
   go_wp2
   go_ret
   exact ⟨rfl,⟨f',HW.out⟩,HAM.out⟩
theorem OwnC.marked {w w':World} {B C g n m:Nat} {v:Value} {f:Nat→Value} (h:OwnC w B C v m) (hA:Amid w w' g (g+1)) (hr:w.rowIs g 2 (n*1) f) (hr':∃f',w'.rowIs g 2 (n*1) f'):OwnC w' B C v m:=by
 obtain ⟨gi,fi,hvi,hi1,hi2,hri⟩:=h
 by_cases e3:gi=g
 ·subst e3
  have hs:=row_size hri hr
  obtain ⟨f',hf'⟩:=hr'
  exact ⟨gi,f',hvi,hi1,hi2,by rw [hs];exact hf'⟩
 ·exact ⟨gi,fi,hvi,hi1,hi2,hri.of_block (hA.block gi hri.lt (by omega))⟩
theorem Rows3.marked {w w':World} {B C g n:Nat} {v1 v2 v3:Value} {r:RunD} {f:Nat→Value} (h:Rows3 w B C v1 v2 v3 r) (hA:Amid w w' g (g+1)) (hr:w.rowIs g 2 (n*1) f) (hr':∃f',w'.rowIs g 2 (n*1) f'):Rows3 w' B C v1 v2 v3 r:=⟨h.vars.marked hA hr hr',h.marks.marked hA hr hr',h.dues.marked hA hr hr'⟩
end Ch
end Go.Proofs.YtccklgopcjilcaaGreatDoor
/- Rows of processes in memory, and the law's measure of them. -/
namespace Go.Proofs.YtccklgopcjilcaaGreatDoor
open Go.RowKit Go.Deep
set_option linter.unusedVariables false
namespace Ep
open Ex (hid)
open St (StepD old_cell old_free setB)
def Ok1 (s:List StepD):Prop:=St.Ok s∧s.length≤maxLen
def Small1 (n:Int) (s:List StepD):Prop:=St.Small n s
theorem Small1.mono {m n:Int} {s:List StepD} (h:Small1 m s) (hm:m≤n):Small1 n s:=⟨Int.le_trans h.1 hm,fun x hx=>(h.2 x hx).mono hm⟩
def wt1 (s:List StepD):Nat:=St.wt s
def At (w:World) (B:Nat) (v:Value) (ss:List (List StepD)):Prop:=
 ∃a cap,v=.slice a ss.length cap∧ss.length≤cap∧cap≤maxLen∧(ss=[]∨∃g o,a=some ⟨g,o,none⟩∧B≤g∧g<w.heap.size∧
  ∀i (h:i<ss.length),∃v1,w.cell? ⟨g,o+i,none⟩=some v1∧St.At w B v1 ss[i])
theorem At.kept {w w':World} {B:Nat} {v:Value} {ss:List (List StepD)} (h:At w B v ss) (hs:w.heap.size≤w'.heap.size) (hb:∀g,B≤g→g<w.heap.size→w'.heap[g]?=w.heap[g]?):At w' B v ss:=by
 obtain ⟨a,cap,rfl,hle,hmx,h⟩:=h
 refine ⟨a,cap,rfl,hle,hmx,?_⟩
 rcases h with h | ⟨g,o,rfl,hB,hg,hc⟩
 ·exact .inl h
 ·refine .inr ⟨g,o,rfl,hB,Nat.lt_of_lt_of_le hg hs,fun i hi=>?_⟩
  have e:∀off,w'.cell? ⟨g,off,none⟩=w.cell? ⟨g,off,none⟩:=fun off=>by simp only [World.cell?,hb g hB hg]
  obtain ⟨v1,h0,hy⟩:=hc i hi
  exact ⟨v1,(e _).trans h0,hy.kept hs hb⟩
theorem At.below {w w':World} {B:Nat} {v:Value} {ss:List (List StepD)} (h:At w B v ss) (hb:Below w.heap.size w w'):At w' B v ss:=h.kept hb.size (fun g _ hg=>hb.block g hg)
theorem At.setBelow {w:World} {B:Nat} {v:Value} {ss:List (List StepD)} (h:At w B v ss) {b o:Nat} (ha:b<B) (x:Value):At (w.setCell ⟨b,o,none⟩ x) B v ss:=
 h.kept (by simp [World.setCell]) (fun g hg _=>Below.heap_setCell _ _ _ _ (by dsimp only;omega))
theorem At.mono {w:World} {B B':Nat} {v:Value} {ss:List (List StepD)} (h:At w B v ss) (hB:B'≤B):At w B' v ss:=by
 obtain ⟨a,cap,rfl,hle,hmx,h⟩:=h
 refine ⟨a,cap,rfl,hle,hmx,?_⟩
 rcases h with h | ⟨g,o,rfl,hb,hg,hc⟩
 ·exact .inl h
 ·refine .inr ⟨g,o,rfl,Nat.le_trans hB hb,hg,fun i hi=>?_⟩
  obtain ⟨v1,h0,hy⟩:=hc i hi
  exact ⟨v1,h0,hy.mono hB⟩
theorem At.slice {w:World} {B:Nat} {v:Value} {ss:List (List StepD)} (h:At w B v ss):∃a cap,v=.slice a ss.length cap:=by
 obtain ⟨a,cap,rfl,_⟩:=h;exact ⟨a,cap,rfl⟩
theorem At.at {w:World} {B:Nat} {a:Option Addr} {n cap:Nat} {ss:List (List StepD)} (h:At w B (.slice a n cap) ss) {i:Nat} (hi:i<ss.length):
    ∃g o v1,a=some ⟨g,o,none⟩∧g<w.heap.size∧w.cell? ⟨g,o+i,none⟩=some v1∧St.At w B v1 ss[i]:=by
 obtain ⟨a',cap',e,_,_,h⟩:=h
 cases e
 rcases h with h | ⟨g,o,rfl,_,hg,hc⟩
 ·subst h;simp at hi
 ·obtain ⟨v1,hx⟩:=hc i hi
  exact ⟨g,o,v1,rfl,hg,hx⟩
theorem At.nil (w:World) (B:Nat):At w B (.slice none 0 0) []:=⟨_,_,rfl,Nat.le_refl _,Nat.zero_le _,.inl rfl⟩
theorem At.cap {w:World} {B:Nat} {a:Option Addr} {n cap:Nat} {ss:List (List StepD)} (h:At w B (.slice a n cap) ss):ss.length≤cap∧cap≤maxLen:=by
 obtain ⟨a',cap',e,h1,h2,_⟩:=h;cases e;exact ⟨h1,h2⟩
def Ok (ss:List (List StepD)):Prop:=∀s∈ss,Ok1 s
def Small (n:Int) (ss:List (List StepD)):Prop:=(ss.length:Int)≤n∧∀s∈ss,Small1 n s
theorem Small.at {n:Int} {ss:List (List StepD)} (h:Small n ss) {i:Nat} (hi:i<ss.length):Small1 n ss[i]:=h.2 _ (List.getElem_mem hi)
theorem Small.mono {m n:Int} {ss:List (List StepD)} (h:Small m ss) (hm:m≤n):Small n ss:=⟨Int.le_trans h.1 hm,fun s hs=>(h.2 s hs).mono hm⟩
def wt:List (List StepD)→Nat
 | []=>0
 | s :: ss=>1+wt1 s+wt ss
theorem wt_take {ss:List (List StepD)} {k:Nat} (h:k<ss.length):wt (ss.take (k+1))=wt (ss.take k)+1+wt1 ss[k]:=by
 induction ss generalizing k with
 | nil=>simp at h
 | cons s ss ih=>
  cases k with
  | zero=>simp [wt]
  | succ k=>
   have:=ih (k:=k) (by simpa using h)
   simp only [List.take_succ_cons,wt,List.getElem_cons_succ] at this ⊢
   omega
set_option maxRecDepth 100000 in
set_option maxHeartbeats 1000000 in
theorem szOne (B:Nat) (x:(List StepD)) (v1:Value) (n:Int) (w:World) (h0:0≤n) (hn:n≤1048576) (hk:Ok1 x) (hc:St.At w B v1 x):
    Calls Tryz.prog 46 #[.agg #[v1],.int .i64 n] w fun e w'=>(∃r:Int,e=.returned (.int .i64 r)∧-1≤r∧r≤n∧(0≤r→Small1 n x∧r+(wt1 x:Int)≤n))∧Below w.heap.size w w':=by
 obtain ⟨a1,k1,rfl⟩:=hc.slice
 have hB:Below w.heap.size w (w.alloc (.cells #[.slice a1 x.length k1] 84)):=(Below.refl _ w).alloc (Nat.le_refl _) _
 have HC2:=hid (hc.below hB)
 clear hc
 go_enter Tryz.func46,Tryz.ntmps46
 go_wp2_with fail
 refine (St.szS2 B x _ n _ h0 hn hk.2 hk.1 HC2.out).mono ?_
 rintro e w1 ⟨⟨r,rfl,hr1,hr2,hr3⟩,hb1⟩
 have HB1:=hid (hB.trans (hb1.mono hB.size))
 clear hb1
 by_cases hr:r<0
 ·go_wp2
  go_ret
  exact ⟨⟨-1,rfl,by omega,by omega,by omega⟩,HB1.out⟩
 ·have hr3':=hid (hr3 (by omega))
  clear hr3
  go_wp2
  go_ret
  exact ⟨⟨r,rfl,by omega,by omega,fun _=>hr3'.out⟩,HB1.out⟩
set_option maxRecDepth 100000 in
set_option maxHeartbeats 1000000 in
theorem szS (B:Nat) (ss:List (List StepD)) (v:Value) (n:Int) (w:World) (h0:0≤n) (hn:n≤1048576) (hl:ss.length≤maxLen) (hk:Ok ss) (ha:At w B v ss):
    Calls Tryz.prog 9 #[v,.int .i64 n] w fun e w'=>(∃r:Int,e=.returned (.int .i64 r)∧-1≤r∧r≤n∧(0≤r→Small n ss∧r+(wt ss:Int)≤n))∧Below w.heap.size w w':=by
 obtain ⟨a,cap,rfl⟩:=ha.slice
 have HA:=hid ha
 have HK:=hid hk
 clear ha hk
 unfold maxLen at hl
 by_cases q1:n - (ss.length:Int)<0
 ·go_enter Tryz.func9,Tryz.ntmps9
  go_wp2
  go_ret
  exact ⟨⟨-1,rfl,by omega,by omega,by omega⟩,Below.refl _ _⟩
 ·go_enter Tryz.func9,Tryz.ntmps9
  go_wp2
  go_loopw [1,5] (fun m i wr=>∃(k:Nat) (z:Int),i=.int .i64 k∧m=.int .i64 z∧0≤z∧z≤n∧k≤ss.length∧z+(wt (ss.take k):Int)≤n - (ss.length:Int)+(k:Int)∧Hid (∀j (h:j<ss.length),j<k→Small1 n ss[j])∧Below w.heap.size w wr) (fun _ i _=>ss.length - (intOf i).toNat)
  case atStart=>exact ⟨0,_,rfl,rfl,by omega,by omega,Nat.zero_le _,by simp [wt],fun j _ h=>by omega,Below.refl _ _⟩
  case round=>
   obtain ⟨k,z,rfl,rfl,hz0,hzn,hkl,hzw,HJ,hbel⟩:=hrel
   by_cases hlt:k<ss.length
   ·obtain ⟨g,o,v1,rfl,hg,c0,hv⟩:=(HA.out.below hbel).at hlt
    obtain ⟨a21,k21,rfl⟩:=hv.slice
    have HV:=hid hv
    clear hv
    have hke:=HK.out ss[k] (List.getElem_mem hlt)
    have q1:(k:Int)<(ss.length:Int):=by omega
    go_wp2_with fail
    refine (szOne B ss[k] _ z _ hz0 (by omega) hke HV.out).mono ?_
    rintro e w1 ⟨⟨r,rfl,hr1,hr2,hr3⟩,hb1⟩
    have hB:=hbel.trans (hb1.mono hbel.size)
    by_cases hr:r<0
    ·go_wp2
     go_ret
     exact ⟨⟨-1,rfl,by omega,by omega,by omega⟩,hB⟩
    ·have hr4:=hr3 (by omega)
     have hr5:=hr4.2
     have hr6:=wt_take hlt
     have HJ2:Hid (∀j (h:j<ss.length),j<k+1→Small1 n ss[j]):=hid (fun j h hj=>by
      by_cases e:j=k
      ·subst e
       exact hr4.1.mono hzn
      ·exact HJ.out j h (by omega))
     have hzw2:r+(wt (ss.take (k+1)):Int)≤n - (ss.length:Int)+((k+1:Nat):Int):=by omega
     clear hr3 hr4 hr5 hr6
     go_wp2
     exact ⟨⟨k+1,r,by simp,rfl,by omega,by omega,by omega,hzw2,HJ2,hB⟩,by simp [intOf];omega⟩
   ·have HJ2:Hid (Small n ss):=hid ⟨by omega,fun x hx=>by
     obtain ⟨j,hj,rfl⟩:=List.getElem_of_mem hx
     exact HJ.out j hj (by omega)⟩
    rw [List.take_of_length_le (by omega)] at hzw
    go_wp2
    go_ret
    exact ⟨⟨z,rfl,by omega,by omega,fun _=>⟨HJ2.out,by omega⟩⟩,hbel⟩
end Ep
end Go.Proofs.YtccklgopcjilcaaGreatDoor
