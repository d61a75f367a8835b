/- Laid together: ChM, OfA. -/
import Derived.Test.YtkelmhkakdeghaaGreatDoorJOF14
import Derived.Test.YtkelmhkakdeghaaGreatDoorJOF13
import Derived.Laws.OwnMore
/- The law's copy of a chart owns its rows; its marks. -/
namespace Go.Proofs.YtkelmhkakdeghaaGreatDoor
open Go.RowKit Go.Deep
set_option linter.unusedVariables false
namespace Ch
open St (Amid row_size)
/-- A list that is a whole row of its own. -/
def OwnL (w : World) (B : Nat) (v : Value) (m : Nat) : Prop := ∃ g f, v = .slice (some ⟨g, 0, none⟩) m m ∧ B ≤ g ∧ w.rowIs g 2 (m * 1) f
theorem OwnL.below {w w' : World} {B : Nat} {v : Value} {m : Nat} (h : OwnL w B v m) (hb : Below w.heap.size w w') : OwnL w' B v m := by
  obtain ⟨g, f, rfl, h1, h2⟩ := h
  exact ⟨g, f, rfl, h1, h2.of_block (hb.block g h2.lt)⟩
theorem OwnL.mono {w : World} {B B' : Nat} {v : Value} {m : Nat} (h : OwnL w B v m) (hb : B' ≤ B) : OwnL w B' v m := by
  obtain ⟨g, f, rfl, h1, h2⟩ := h
  exact ⟨g, f, rfl, Nat.le_trans hb h1, h2⟩
theorem OwnL.amid {w w' : World} {B C D : Nat} {v : Value} {m : Nat} (h : OwnL w B v m) (ha : Amid w w' C D) (hd : D ≤ B) : OwnL w' B v m := by
  obtain ⟨g, f, rfl, h1, h2⟩ := h
  exact ⟨g, f, rfl, h1, h2.of_block (ha.block g h2.lt (.inr (by omega)))⟩
structure NO (w : World) (B : Nat) (v : Value) (xs : List Int) : Prop where
  at' : Nu.At w B v xs
  own : OwnL w B v xs.length
theorem NO.below {w w' : World} {B : Nat} {v : Value} {xs : List Int} (h : NO w B v xs) (hb : Below w.heap.size w w') : NO w' B v xs := ⟨h.at'.below hb, h.own.below hb⟩
theorem NO.mono {w : World} {B B' : Nat} {v : Value} {xs : List Int} (h : NO w B v xs) (hb : B' ≤ B) : NO w B' v xs := ⟨h.at'.mono hb, h.own.mono hb⟩
theorem NO.slice {w : World} {B : Nat} {v : Value} {xs : List Int} (h : NO w B v xs) : ∃ a cap, v = .slice a xs.length cap := h.at'.slice
theorem NO.setBelow {w : World} {B : Nat} {v : Value} {xs : List Int} (h : NO w B v xs) {b o : Nat} (ha : b < B) (x : Value) : NO (w.setCell ⟨b, o, none⟩ x) B v xs := by
  refine ⟨h.at'.setBelow ha x, ?_⟩
  obtain ⟨g, f, rfl, h1, h2⟩ := h.own
  exact ⟨g, f, rfl, h1, h2.of_block (Below.heap_setCell _ _ _ _ (by dsimp only; omega))⟩
theorem no5 {B : Nat} {w : World} {v : Value} {xs : List Int} (h : NO w B v xs) {b : Nat} (hb : b < B) (a0 a1 a2 a3 a4 : Value) : NO (((((w.setCell ⟨b, 0, none⟩ a0).setCell ⟨b, 1, none⟩ a1).setCell ⟨b, 2, none⟩ a2).setCell ⟨b, 3, none⟩ a3).setCell ⟨b, 4, none⟩ a4) B v xs :=
  ((((h.setBelow hb _).setBelow hb _).setBelow hb _).setBelow hb _).setBelow hb _
theorem NO.toS (B : Nat) (xs : List Int) (v : Value) (w : World) (hl : xs.length ≤ 1048576) (ha : Nu.At w B v xs) :
    Calls Tryz.prog 169 #[v] w fun e w' => ∃ v', e = .returned v' ∧ NO w' w.heap.size v' xs ∧ Below w.heap.size w w' :=
  (Nu.toS2 B xs v w hl ha).mono (fun e w' ⟨v', h1, h2, ⟨g, f, h3, h4, h5, h6⟩, h7⟩ => ⟨v', h1, ⟨h2, g, f, h3, h4, h6⟩, h7⟩)
structure AtO (w : World) (B : Nat) (v1 v2 v3 : Value) (r : RunD) : Prop where
  vars : NO w B v1 r.vars
  marks : NO w B v2 r.marks
  dues : NO w B v3 r.dues
theorem AtO.at' {w : World} {B : Nat} {v1 v2 v3 : Value} {r : RunD} (h : AtO w B v1 v2 v3 r) : At w B v1 v2 v3 r := ⟨h.vars.at', h.marks.at', h.dues.at'⟩
theorem AtO.below {w w' : World} {B : Nat} {v1 v2 v3 : Value} {r : RunD} (h : AtO w B v1 v2 v3 r) (hb : Below w.heap.size w w') : AtO w' B v1 v2 v3 r := ⟨h.vars.below hb, h.marks.below hb, h.dues.below hb⟩
set_option maxRecDepth 100000 in
set_option maxHeartbeats 8000000 in
theorem to2 (B : Nat) (r : RunD) (v1 v2 v3 : Value) (w : World) (hl : Small 1048576 r) (ha : At w B v1 v2 v3 r) :
    Calls Tryz.prog 136 #[.agg #[.int .i64 r.status, .int .i64 r.now, v1, v2, v3]] w fun e w' => ∃ u1 u2 u3, e = .returned (.agg #[.int .i64 r.status, .int .i64 r.now, u1, u2, u3]) ∧ AtO w' w.heap.size u1 u2 u3 r ∧ Below w.heap.size w w' := by
  obtain ⟨a1, k1, rfl⟩ := ha.vars.slice
  obtain ⟨a2, k2, rfl⟩ := ha.marks.slice
  obtain ⟨a3, k3, rfl⟩ := ha.dues.slice
  have HL := hid hl
  have KB : Hid (Below w.heap.size w (((w.alloc (.cells #[.int .i64 r.status, .int .i64 r.now, .slice a1 r.vars.length k1, .slice a2 r.marks.length k2, .slice a3 r.dues.length k3] 153)).alloc (.cells #[.int .i64 0, .int .i64 0, .slice none 0 0, .slice none 0 0, .slice none 0 0] 91)).alloc (.cells #[.int .i64 r.status, .int .i64 r.now, .slice none 0 0, .slice none 0 0, .slice none 0 0] 91))) := hid ((((Below.refl _ w).alloc (Nat.le_refl _) _).alloc (by simp) _).alloc (by simp; omega) _)
  have K0 : Hid ((((w.alloc (.cells #[.int .i64 r.status, .int .i64 r.now, .slice a1 r.vars.length k1, .slice a2 r.marks.length k2, .slice a3 r.dues.length k3] 153)).alloc (.cells #[.int .i64 0, .int .i64 0, .slice none 0 0, .slice none 0 0, .slice none 0 0] 91)).alloc (.cells #[.int .i64 r.status, .int .i64 r.now, .slice none 0 0, .slice none 0 0, .slice none 0 0] 91)).heap[w.heap.size]? = some (.cells #[.int .i64 r.status, .int .i64 r.now, .slice a1 r.vars.length k1, .slice a2 r.marks.length k2, .slice a3 r.dues.length k3] 153)) := hid (by rw [Below.heap_alloc _ _ _ (by simp; omega), Below.heap_alloc _ _ _ (by simp), new_blk])
  have K1 : Hid ((((w.alloc (.cells #[.int .i64 r.status, .int .i64 r.now, .slice a1 r.vars.length k1, .slice a2 r.marks.length k2, .slice a3 r.dues.length k3] 153)).alloc (.cells #[.int .i64 0, .int .i64 0, .slice none 0 0, .slice none 0 0, .slice none 0 0] 91)).alloc (.cells #[.int .i64 r.status, .int .i64 r.now, .slice none 0 0, .slice none 0 0, .slice none 0 0] 91)).heap[w.heap.size + 1]? = some (.cells #[.int .i64 0, .int .i64 0, .slice none 0 0, .slice none 0 0, .slice none 0 0] 91)) := hid (by rw [Below.heap_alloc _ _ _ (by simp)]; exact new_at (by simp) _)
  have K2 : Hid ((((w.alloc (.cells #[.int .i64 r.status, .int .i64 r.now, .slice a1 r.vars.length k1, .slice a2 r.marks.length k2, .slice a3 r.dues.length k3] 153)).alloc (.cells #[.int .i64 0, .int .i64 0, .slice none 0 0, .slice none 0 0, .slice none 0 0] 91)).alloc (.cells #[.int .i64 r.status, .int .i64 r.now, .slice none 0 0, .slice none 0 0, .slice none 0 0] 91)).heap[w.heap.size + 1 + 1]? = some (.cells #[.int .i64 r.status, .int .i64 r.now, .slice none 0 0, .slice none 0 0, .slice none 0 0] 91)) := hid (new_at (by simp) _)
  have HA := hid ha
  clear ha hl
  go_enter Tryz.func136, Tryz.ntmps136
  go_wp2_with fail
  generalize ((w.alloc (.cells #[.int .i64 r.status, .int .i64 r.now, .slice a1 r.vars.length k1, .slice a2 r.marks.length k2, .slice a3 r.dues.length k3] 153)).alloc (.cells #[.int .i64 0, .int .i64 0, .slice none 0 0, .slice none 0 0, .slice none 0 0] 91)).alloc (.cells #[.int .i64 r.status, .int .i64 r.now, .slice none 0 0, .slice none 0 0, .slice none 0 0] 91) = w0 at *
  refine (NO.toS B r.vars _ w0 (by have := HL.out.vars; omega) (HA.out.below KB.out).vars).mono ?_
  rintro e w1 ⟨u1, rfl, hu, hb⟩
  obtain ⟨x1, y1, rfl⟩ := hu.slice
  have KBx := KB.out.trans (hb.mono KB.out.size)
  have z0 := blk_lt K2.out
  have K0x := (hb.block _ (blk_lt K0.out)).trans K0.out
  have K1x := (hb.block _ (blk_lt K1.out)).trans K1.out
  have K2x := (hb.block _ (blk_lt K2.out)).trans K2.out
  have G0 := hid (blk_cell K2x 2)
  have g2 := blk_free K2x 2
  have z1 := blk_lt K2x
  have g1 : w1.cell? ⟨w.heap.size + 1 + 1, 2, none⟩ = some (.slice none 0 0) := by rw [G0.out]; rfl
  have K01 := hid ((Below.heap_setCell w1 ⟨w.heap.size + 1 + 1, 2, none⟩ (.slice x1 r.vars.length y1) w.heap.size (by dsimp only; omega)).trans K0x)
  have K11 := hid ((Below.heap_setCell w1 ⟨w.heap.size + 1 + 1, 2, none⟩ (.slice x1 r.vars.length y1) (w.heap.size + 1) (by dsimp only; omega)).trans K1x)
  have K21 : Hid ((w1.setCell ⟨w.heap.size + 1 + 1, 2, none⟩ (.slice x1 r.vars.length y1)).heap[w.heap.size + 1 + 1]? = some (.cells #[.int .i64 r.status, .int .i64 r.now, .slice x1 r.vars.length y1, .slice none 0 0, .slice none 0 0] 91)) := hid (by have := blk_set (i := 2) K2x (.slice x1 r.vars.length y1); simpa using this)
  have KB1 : Hid (Below w.heap.size w (w1.setCell ⟨w.heap.size + 1 + 1, 2, none⟩ (.slice x1 r.vars.length y1))) := hid (KBx.setCell (by dsimp only; omega) _)
  have HX11 : Hid (NO (w1.setCell ⟨w.heap.size + 1 + 1, 2, none⟩ (.slice x1 r.vars.length y1)) (w.heap.size + 1 + 1 + 1) (.slice x1 r.vars.length y1) r.vars) := hid ((hu.setBelow (b := w.heap.size + 1 + 1) (o := 2) (by omega) _).mono (by omega))
  have b1 : (w1.setCell ⟨w.heap.size + 1 + 1, 2, none⟩ (.slice x1 r.vars.length y1)).cell? ⟨w.heap.size, 3, none⟩ = some (.slice a2 r.marks.length k2) := by rw [blk_cell K01.out]; rfl
  have b2 := blk_lt K01.out
  clear hu hb KBx K0x K1x K2x G0 z0 KB K0 K1 K2
  go_wp2_with fail
  generalize w1.setCell ⟨w.heap.size + 1 + 1, 2, none⟩ (.slice x1 r.vars.length y1) = wA1 at *
  clear g1 g2 z1
  have b1p := b1
  have b2p := b2
  clear b1 b2
  refine (NO.toS B r.marks _ wA1 (by have := HL.out.marks; omega) (HA.out.below KB1.out).marks).mono ?_
  rintro e w2 ⟨u2, rfl, hu, hb⟩
  obtain ⟨x2, y2, rfl⟩ := hu.slice
  have KBx := KB1.out.trans (hb.mono KB1.out.size)
  have z0 := blk_lt K21.out
  have K0x := (hb.block _ (blk_lt K01.out)).trans K01.out
  have K1x := (hb.block _ (blk_lt K11.out)).trans K11.out
  have K2x := (hb.block _ (blk_lt K21.out)).trans K21.out
  have G0 := hid (blk_cell K2x 3)
  have g2 := blk_free K2x 3
  have z1 := blk_lt K2x
  have g1 : w2.cell? ⟨w.heap.size + 1 + 1, 3, none⟩ = some (.slice none 0 0) := by rw [G0.out]; rfl
  have K02 := hid ((Below.heap_setCell w2 ⟨w.heap.size + 1 + 1, 3, none⟩ (.slice x2 r.marks.length y2) w.heap.size (by dsimp only; omega)).trans K0x)
  have K12 := hid ((Below.heap_setCell w2 ⟨w.heap.size + 1 + 1, 3, none⟩ (.slice x2 r.marks.length y2) (w.heap.size + 1) (by dsimp only; omega)).trans K1x)
  have K22 : Hid ((w2.setCell ⟨w.heap.size + 1 + 1, 3, none⟩ (.slice x2 r.marks.length y2)).heap[w.heap.size + 1 + 1]? = some (.cells #[.int .i64 r.status, .int .i64 r.now, .slice x1 r.vars.length y1, .slice x2 r.marks.length y2, .slice none 0 0] 91)) := hid (by have := blk_set (i := 3) K2x (.slice x2 r.marks.length y2); simpa using this)
  have KB2 : Hid (Below w.heap.size w (w2.setCell ⟨w.heap.size + 1 + 1, 3, none⟩ (.slice x2 r.marks.length y2))) := hid (KBx.setCell (by dsimp only; omega) _)
  have HX22 : Hid (NO (w2.setCell ⟨w.heap.size + 1 + 1, 3, none⟩ (.slice x2 r.marks.length y2)) (w.heap.size + 1 + 1 + 1) (.slice x2 r.marks.length y2) r.marks) := hid ((hu.setBelow (b := w.heap.size + 1 + 1) (o := 3) (by omega) _).mono (by omega))
  have HX12 : Hid (NO (w2.setCell ⟨w.heap.size + 1 + 1, 3, none⟩ (.slice x2 r.marks.length y2)) (w.heap.size + 1 + 1 + 1) (.slice x1 r.vars.length y1) r.vars) := hid ((HX11.out.below hb).setBelow (b := w.heap.size + 1 + 1) (o := 3) (by omega) _)
  have b1 : (w2.setCell ⟨w.heap.size + 1 + 1, 3, none⟩ (.slice x2 r.marks.length y2)).cell? ⟨w.heap.size, 4, none⟩ = some (.slice a3 r.dues.length k3) := by rw [blk_cell K02.out]; rfl
  have b2 := blk_lt K02.out
  clear hu hb KBx K0x K1x K2x G0 z0 KB1 K01 K11 K21 HX11 b1p b2p
  go_wp2_with fail
  generalize w2.setCell ⟨w.heap.size + 1 + 1, 3, none⟩ (.slice x2 r.marks.length y2) = wA2 at *
  clear g1 g2 z1
  have b1p := b1
  have b2p := b2
  clear b1 b2
  refine (NO.toS B r.dues _ wA2 (by have := HL.out.dues; omega) (HA.out.below KB2.out).dues).mono ?_
  rintro e w3 ⟨u3, rfl, hu, hb⟩
  obtain ⟨x3, y3, rfl⟩ := hu.slice
  have KBx := KB2.out.trans (hb.mono KB2.out.size)
  have z0 := blk_lt K22.out
  have K0x := (hb.block _ (blk_lt K02.out)).trans K02.out
  have K1x := (hb.block _ (blk_lt K12.out)).trans K12.out
  have K2x := (hb.block _ (blk_lt K22.out)).trans K22.out
  have G0 := hid (blk_cell K2x 4)
  have g2 := blk_free K2x 4
  have z1 := blk_lt K2x
  have g1 : w3.cell? ⟨w.heap.size + 1 + 1, 4, none⟩ = some (.slice none 0 0) := by rw [G0.out]; rfl
  have K03 := hid ((Below.heap_setCell w3 ⟨w.heap.size + 1 + 1, 4, none⟩ (.slice x3 r.dues.length y3) w.heap.size (by dsimp only; omega)).trans K0x)
  have K13 := hid ((Below.heap_setCell w3 ⟨w.heap.size + 1 + 1, 4, none⟩ (.slice x3 r.dues.length y3) (w.heap.size + 1) (by dsimp only; omega)).trans K1x)
  have K23 : Hid ((w3.setCell ⟨w.heap.size + 1 + 1, 4, none⟩ (.slice x3 r.dues.length y3)).heap[w.heap.size + 1 + 1]? = some (.cells #[.int .i64 r.status, .int .i64 r.now, .slice x1 r.vars.length y1, .slice x2 r.marks.length y2, .slice x3 r.dues.length y3] 91)) := hid (by have := blk_set (i := 4) K2x (.slice x3 r.dues.length y3); simpa using this)
  have KB3 : Hid (Below w.heap.size w (w3.setCell ⟨w.heap.size + 1 + 1, 4, none⟩ (.slice x3 r.dues.length y3))) := hid (KBx.setCell (by dsimp only; omega) _)
  have HX33 : Hid (NO (w3.setCell ⟨w.heap.size + 1 + 1, 4, none⟩ (.slice x3 r.dues.length y3)) (w.heap.size + 1 + 1 + 1) (.slice x3 r.dues.length y3) r.dues) := hid ((hu.setBelow (b := w.heap.size + 1 + 1) (o := 4) (by omega) _).mono (by omega))
  have HX13 : Hid (NO (w3.setCell ⟨w.heap.size + 1 + 1, 4, none⟩ (.slice x3 r.dues.length y3)) (w.heap.size + 1 + 1 + 1) (.slice x1 r.vars.length y1) r.vars) := hid ((HX12.out.below hb).setBelow (b := w.heap.size + 1 + 1) (o := 4) (by omega) _)
  have HX23 : Hid (NO (w3.setCell ⟨w.heap.size + 1 + 1, 4, none⟩ (.slice x3 r.dues.length y3)) (w.heap.size + 1 + 1 + 1) (.slice x2 r.marks.length y2) r.marks) := hid ((HX22.out.below hb).setBelow (b := w.heap.size + 1 + 1) (o := 4) (by omega) _)
  clear hu hb KBx K0x K1x K2x G0 z0 KB2 K02 K12 K22 HX12 HX22 b1p b2p
  go_upto_region 7 with fail
  generalize w3.setCell ⟨w.heap.size + 1 + 1, 4, none⟩ (.slice x3 r.dues.length y3) = wA3 at *
  clear g1 g2 z1
  have c0 := (blk_cell K23.out 0)
  have c1 := (blk_cell K23.out 1)
  have c2 := (blk_cell K23.out 2)
  have c3 := (blk_cell K23.out 3)
  have c4 := (blk_cell K23.out 4)
  have d0 := (blk_cell K13.out 0)
  have d1 := (blk_cell K13.out 1)
  have d2 := (blk_cell K13.out 2)
  have d3 := (blk_cell K13.out 3)
  have d4 := (blk_cell K13.out 4)
  have f0 := (blk_free K13.out 0)
  have f1 := (blk_free K13.out 1)
  have f2 := (blk_free K13.out 2)
  have f3 := (blk_free K13.out 3)
  have f4 := (blk_free K13.out 4)
  simp at c0 c1 c2 c3 c4 d0 d1 d2 d3 d4
  have z0 := blk_lt K23.out
  have z1 := blk_lt K13.out
  go_wp2
  refine bodyPost_ret (results_cell_row Tryz.results136 _ _ (w.heap.size + 1) 91 #[.int .i64 r.status, .int .i64 r.now, .slice x1 r.vars.length y1, .slice x2 r.marks.length y2, .slice x3 r.dues.length y3] (0, 0) _ rfl (set5 K13.out _ _ _ _ _) Tryz.underlying91 rfl info5) rfl ⟨_, _, _, rfl, ⟨?_, ?_, ?_⟩, ?_⟩
  · exact (no5 HX13.out (by omega) _ _ _ _ _).mono (by omega)
  · exact (no5 HX23.out (by omega) _ _ _ _ _).mono (by omega)
  · exact (no5 HX33.out (by omega) _ _ _ _ _).mono (by omega)
  · exact below5 KB3.out (by omega) _ _ _ _ _
/-- A whole row between two blocks. -/
def OwnC (w : World) (B C : Nat) (v : Value) (m : Nat) : Prop := ∃ g f, v = .slice (some ⟨g, 0, none⟩) m m ∧ B ≤ g ∧ g < C ∧ w.rowIs g 2 (m * 1) f
theorem OwnC.below {w w' : World} {B C : Nat} {v : Value} {m : Nat} (h : OwnC w B C v m) (hb : Below w.heap.size w w') : OwnC w' B C v m := by
  obtain ⟨g, f, rfl, h1, h1', h2⟩ := h
  exact ⟨g, f, rfl, h1, h1', h2.of_block (hb.block g h2.lt)⟩
theorem OwnC.amid {w w' : World} {B C E F : Nat} {v : Value} {m : Nat} (h : OwnC w B C v m) (ha : Amid w w' E F) (hd : F ≤ B) : OwnC w' B C v m := by
  obtain ⟨g, f, rfl, h1, h1', h2⟩ := h
  exact ⟨g, f, rfl, h1, h1', h2.of_block (ha.block g h2.lt (.inr (by omega)))⟩
theorem OwnL.upto {w : World} {B : Nat} {v : Value} {m : Nat} (h : OwnL w B v m) : OwnC w B w.heap.size v m := by
  obtain ⟨g, f, rfl, h1, h2⟩ := h
  exact ⟨g, f, rfl, h1, h2.lt, h2⟩
/-- The three rows alone, whatever they hold. -/
structure Rows3 (w : World) (B C : Nat) (v1 v2 v3 : Value) (r : RunD) : Prop where
  vars : OwnC w B C v1 r.vars.length
  marks : OwnC w B C v2 r.marks.length
  dues : OwnC w B C v3 r.dues.length
theorem AtO.rows {w : World} {B : Nat} {v1 v2 v3 : Value} {r : RunD} (h : AtO w B v1 v2 v3 r) : Rows3 w B w.heap.size v1 v2 v3 r := ⟨h.vars.own.upto, h.marks.own.upto, h.dues.own.upto⟩
theorem Rows3.below {w w' : World} {B C : Nat} {v1 v2 v3 : Value} {r : RunD} (h : Rows3 w B C v1 v2 v3 r) (hb : Below w.heap.size w w') : Rows3 w' B C v1 v2 v3 r := ⟨h.vars.below hb, h.marks.below hb, h.dues.below hb⟩
theorem Rows3.amid {w w' : World} {B C E F : Nat} {v1 v2 v3 : Value} {r : RunD} (h : Rows3 w B C v1 v2 v3 r) (ha : Amid w w' E F) (hd : F ≤ B) : Rows3 w' B C v1 v2 v3 r := ⟨h.vars.amid ha hd, h.marks.amid ha hd, h.dues.amid ha hd⟩
set_option maxRecDepth 100000 in
set_option maxHeartbeats 4000000 in
theorem markL (g : Nat) (m : Nat) (f : Nat → Value) (k : Int) (w : World) (hm : m ≤ 1048576) (h0 : 0 < k) (hk : k ≤ 17592186044416) (hr : w.rowIs g 2 (m * 1) f) :
    Calls Tryz.prog 113 #[.slice (some ⟨g, 0, none⟩) m m, .int .i64 k] w fun e w' => e = .returned (.int .i64 (k + (m : Int))) ∧ (∃ f', w'.rowIs g 2 (m * 1) f') ∧ Amid w w' g (g + 1) := by
  have HR := hid hr
  clear hr
  go_enter Tryz.func113, Tryz.ntmps113
  go_wp2
  go_loopw [1, 5] (fun q i wr => ∃ (j : Nat) (f' : Nat → Value), i = .int .i64 j ∧ q = .int .i64 (k + (j : Int)) ∧ j ≤ m ∧ Hid (wr.rowIs g 2 (m * 1) f') ∧ Hid (Amid w wr g (g + 1))) (fun _ i _ => m - (intOf i).toNat)
  case atStart => exact ⟨0, f, rfl, by simp, Nat.zero_le _, HR, hid (Amid.refl _ _ _)⟩
  case round =>
    obtain ⟨j, f', rfl, rfl, hj, HW, HAM⟩ := hrel
    by_cases hlt : j < m
    · have q1 : (j : Int) < (m : Int) := by omega
      have d0 := HW.out.cell (i := j) (by omega)
      have f0 := HW.out.frozen j
      have HR2 := hid (HW.out.set j (.int .i64 (k + (j : Int))))
      have HA2 := hid (HAM.out.trans (Amid.set wr j (.int .i64 (k + (j : Int))) (Nat.le_refl _) (Nat.lt_succ_self _)))
      go_wp2
      exact ⟨⟨j + 1, _, by simp, by simp; omega, by omega, HR2, HA2⟩, by simp [intOf]; omega⟩
    · obtain rfl : j = m := by omega
      go_wp2
      go_ret
      exact ⟨rfl, ⟨f', HW.out⟩, HAM.out⟩
theorem OwnC.marked {w w' : World} {B C g n m : Nat} {v : Value} {f : Nat → Value} (h : OwnC w B C v m) (hA : Amid w w' g (g + 1)) (hr : w.rowIs g 2 (n * 1) f) (hr' : ∃ f', w'.rowIs g 2 (n * 1) f') : OwnC w' B C v m := by
  obtain ⟨gi, fi, hvi, hi1, hi2, hri⟩ := h
  by_cases e3 : gi = g
  · subst e3
    have hs := row_size hri hr
    obtain ⟨f', hf'⟩ := hr'
    exact ⟨gi, f', hvi, hi1, hi2, by rw [hs]; exact hf'⟩
  · exact ⟨gi, fi, hvi, hi1, hi2, hri.of_block (hA.block gi hri.lt (by omega))⟩
theorem Rows3.marked {w w' : World} {B C g n : Nat} {v1 v2 v3 : Value} {r : RunD} {f : Nat → Value} (h : Rows3 w B C v1 v2 v3 r) (hA : Amid w w' g (g + 1)) (hr : w.rowIs g 2 (n * 1) f) (hr' : ∃ f', w'.rowIs g 2 (n * 1) f') : Rows3 w' B C v1 v2 v3 r := ⟨h.vars.marked hA hr hr', h.marks.marked hA hr hr', h.dues.marked hA hr hr'⟩
theorem row_in {w : World} {g n : Nat} {t : TypeId} {f : Nat → Value} (h : w.rowIs g t n f) : g < w.heap.size := h.lt
end Ch
end Go.Proofs.YtkelmhkakdeghaaGreatDoor
/- Offers: rows of claims of one's own; comparison, marks and holds of an answer that is one. -/
namespace Go.Proofs.YtkelmhkakdeghaaGreatDoor
open Go.RowKit Go.Deep
set_option linter.unusedVariables false
namespace Of
open Ex (hid)
open Cl (ClD marksN)
open Ch (blk_cell blk_lt new_blk new_at)
def cv (c : ClD) : List Value := [.int .i64 c.inst, .int .i64 c.step, .int .i64 c.user]
def cvals (xs : List ClD) : List Value := xs.flatMap cv
theorem cvals_snoc (xs : List ClD) (c : ClD) : cvals (xs ++ [c]) = cvals xs ++ cv c := by simp [cvals]
theorem cvals_get : ∀ (xs : List ClD) (i c : Nat) (h : i < xs.length), c < 3 → (cvals xs)[i * 3 + c]? = (cv xs[i])[c]?
  | a :: r, 0, c, _, hc => by
    unfold cvals
    rw [List.flatMap_cons, Nat.zero_mul, Nat.zero_add, List.getElem?_append_left (by simp [cv]; omega)]
    rfl
  | a :: r, i + 1, c, h, hc => by
    have hl : (cv a).length = 3 := rfl
    unfold cvals
    rw [List.flatMap_cons, List.getElem?_append_right (by rw [hl]; omega), hl, show (i + 1) * 3 + c - 3 = i * 3 + c by omega]
    simp only [List.getElem_cons_succ]
    exact cvals_get r i c (by simpa using h) hc
/-- A row of claims of one's own. -/
def COwn (w : World) (B : Nat) (v : Value) (xs : List ClD) : Prop := w.ownsRow B 127 3 v xs.length (cvals xs)
theorem COwn.nil (w : World) (B : Nat) : COwn w B (.slice none 0 0) [] := World.ownsRow_nil _ _ _ _
theorem COwn.at' {w : World} {B : Nat} {v : Value} {xs : List ClD} (h : COwn w B v xs) : Cl.At w B v xs := by
  have h0 := h
  unfold COwn at h
  obtain ⟨hl, ⟨rfl, e⟩ | ⟨g, cap, cur, rfl, hbg, hg, hle, hm, hs, ht⟩⟩ := h
  · have e1 : xs = [] := List.eq_nil_of_length_eq_zero e
    subst e1
    exact ⟨none, 0, rfl, Nat.le_refl _, Nat.zero_le _, .inl rfl⟩
  · refine ⟨some ⟨g, 0, none⟩, cap, rfl, hle, hm, .inr ⟨g, 0, rfl, hbg, (Array.getElem?_eq_some_iff.1 hg).1, fun i hi => ?_⟩⟩
    have q : ∀ c, c < 3 → w.cell? ⟨g, i * 3 + c, none⟩ = (cv xs[i])[c]? := fun c hc => by
      rw [← cvals_get xs i c hi hc]
      exact World.ownsRow.cellAt h0 (i * 3 + c) (by omega)
    rw [Nat.zero_add]
    exact ⟨q 0 (by omega), q 1 (by omega), q 2 (by omega)⟩
theorem COwn.slice {w : World} {B : Nat} {v : Value} {xs : List ClD} (h : COwn w B v xs) : ∃ a k, v = .slice a xs.length k := h.at'.slice
theorem COwn.kept {w w' : World} {B : Nat} {v : Value} {xs : List ClD} (h : COwn w B v xs) (hb : ∀ b, v.ownBlock = some b → w'.heap[b]? = w.heap[b]?) : COwn w' B v xs := by
  unfold COwn at *
  obtain ⟨hl, h | ⟨g, cap, cur, rfl, hbg, hg, hle, hm, hs, ht⟩⟩ := h
  · exact ⟨hl, .inl h⟩
  · exact ⟨hl, .inr ⟨g, cap, cur, rfl, hbg, (hb g rfl).trans hg, hle, hm, hs, ht⟩⟩
theorem COwn.lt {w : World} {B : Nat} {v : Value} {xs : List ClD} (h : COwn w B v xs) {b : Nat} (e : v.ownBlock = some b) : B ≤ b ∧ b < w.heap.size := World.ownsRow.lt h b e
theorem COwn.below {w w' : World} {B : Nat} {v : Value} {xs : List ClD} (h : COwn w B v xs) (hb : Below w.heap.size w w') : COwn w' B v xs := h.kept (fun b e => hb.block b (h.lt e).2)
theorem COwn.mono {w : World} {B B' : Nat} {v : Value} {xs : List ClD} (h : COwn w B v xs) (hb : B' ≤ B) : COwn w B' v xs := by
  unfold COwn at *
  obtain ⟨hl, h | ⟨g, cap, cur, rfl, hbg, hg⟩⟩ := h
  · exact ⟨hl, .inl h⟩
  · exact ⟨hl, .inr ⟨g, cap, cur, rfl, Nat.le_trans hb hbg, hg⟩⟩
/-- Nothing has turned but the block of a row. -/
structure Keep (v : Value) (w w' : World) : Prop where
  os : w'.os = w.os
  tape : w'.tape = w.tape
  output : w'.output = w.output
  size : w.heap.size ≤ w'.heap.size
  block : ∀ b, b < w.heap.size → v.ownBlock ≠ some b → w'.heap[b]? = w.heap[b]?
theorem Keep.below {v : Value} {x w w' : World} (h : Below x.heap.size x w) (ha : Keep v w w') (hs : ∀ b, v.ownBlock = some b → x.heap.size ≤ b) : Below x.heap.size x w' :=
  ⟨ha.os.trans h.os, ha.tape.trans h.tape, ha.output.trans h.output, Nat.le_trans h.size ha.size, fun b hb => (ha.block b (Nat.lt_of_lt_of_le hb h.size) (fun e => by have := hs b e; omega)).trans (h.block b hb)⟩
/-- What a function that tells claims answers. -/
def OPost (code : Int) (xs : List ClD) (w : World) (z : Ending) (w' : World) : Prop :=
  (∃ v, z = .returned (.agg #[.int .i64 code, v]) ∧ COwn w' w.heap.size v xs) ∧ Below w.heap.size w w'
set_option maxRecDepth 100000 in
set_option maxHeartbeats 2000000 in
theorem eqOR (B1 B2 : Nat) (cc : Int) (xs : List ClD) (v1 v2 : Value) (w : World) (hl : xs.length ≤ 1048576) (h1 : Cl.At w B1 v1 xs) (h2 : Cl.At w B2 v2 xs) :
    Calls Tryz.prog 32 #[.agg #[.int .i64 cc, v1], .agg #[.int .i64 cc, v2]] w fun z w' => z = .returned (.bool true) ∧ Below w.heap.size w w' := by
  obtain ⟨a1, k1, rfl⟩ := h1.slice
  obtain ⟨b1, l1, rfl⟩ := h2.slice
  have e1 : (cc != cc) = false := by simp
  obtain ⟨w0, e0⟩ : ∃ w0, w0 = (w.alloc (.cells #[.int .i64 cc, .slice a1 xs.length k1] 58)).alloc (.cells #[.int .i64 cc, .slice b1 xs.length l1] 58) := ⟨_, rfl⟩
  have hb0 : Below w.heap.size w w0 := by rw [e0]; exact ((Below.refl _ w).alloc (Nat.le_refl _) _).alloc (by simp) _
  have HE := hid (Cl.eqS B1 B2 xs _ _ w0 hl (h1.below hb0) (h2.below hb0))
  have HB := hid hb0
  clear h1 h2 hl hb0
  go_enter Tryz.func32, Tryz.ntmps32
  go_wp2_with fail
  rw [← e0]
  clear e0
  refine HE.out.mono ?_
  rintro z w1 ⟨rfl, hb1⟩
  have HB1 := hid (HB.out.trans (hb1.mono HB.out.size))
  clear hb1
  go_wp2
  go_ret
  exact ⟨rfl, HB1.out⟩
set_option maxRecDepth 100000 in
set_option maxHeartbeats 2000000 in
theorem markOR (B : Nat) (cc : Int) (xs : List ClD) (v : Value) (w : World) (hl : xs.length ≤ 1048576) (h : COwn w B v xs) :
    Calls Tryz.prog 34 #[.agg #[.int .i64 cc, v], .int .i64 1] w fun z w' => z = .returned (.int .i64 (1 + 3 * (xs.length : Int))) ∧ Cl.At w' B v (marksN 1 xs.length) ∧ Keep v w w' := by
  obtain ⟨a1, k1, rfl⟩ := h.slice
  obtain ⟨w0, e0⟩ : ∃ w0, w0 = w.alloc (.cells #[.int .i64 cc, .slice a1 xs.length k1] 58) := ⟨_, rfl⟩
  have hb0 : Below w.heap.size w w0 := by rw [e0]; exact (Below.refl _ w).alloc (Nat.le_refl _) _
  have HE := hid (Cl.markS B _ xs.length (cvals xs) 1 w0 hl (by omega) (by omega) (h.below hb0))
  have HB := hid hb0
  clear h hl hb0
  go_enter Tryz.func34, Tryz.ntmps34
  go_wp2_with fail
  rw [← e0]
  clear e0
  refine HE.out.mono ?_
  rintro z w1 ⟨rfl, ha, hg⟩
  have HA := hid ha
  have HK : Hid (Keep (.slice a1 xs.length k1) w w1) := hid ⟨hg.os.trans HB.out.os, hg.tape.trans HB.out.tape, hg.output.trans HB.out.output, Nat.le_trans HB.out.size hg.size, fun b hb hn => (hg.block b (Nat.lt_of_lt_of_le hb HB.out.size) (fun e => hn e.symm)).trans (HB.out.block b hb)⟩
  clear ha hg
  go_wp2
  go_ret
  exact ⟨rfl, HA.out, HK.out⟩
set_option maxRecDepth 100000 in
set_option maxHeartbeats 2000000 in
theorem heldOR (B : Nat) (cc : Int) (n : Nat) (v : Value) (w : World) (hl : n ≤ 1048576) (h : Cl.At w B v (marksN 1 n)) :
    Calls Tryz.prog 35 #[.agg #[.int .i64 cc, v], .int .i64 1] w fun z w' => z = .returned (.int .i64 (1 + 3 * (n : Int))) ∧ Below w.heap.size w w' := by
  obtain ⟨a1, k1, hv⟩ := h.slice
  rw [Cl.marksN_len] at hv
  subst hv
  obtain ⟨w0, e0⟩ : ∃ w0, w0 = w.alloc (.cells #[.int .i64 cc, .slice a1 n k1] 58) := ⟨_, rfl⟩
  have hb0 : Below w.heap.size w w0 := by rw [e0]; exact (Below.refl _ w).alloc (Nat.le_refl _) _
  have HE := hid (Cl.heldS B _ n 1 w0 hl (by omega) (by omega) (h.below hb0))
  have HB := hid hb0
  have q3 : ¬ (1 + 3 * (n : Int)) < 0 := by omega
  clear h hb0
  go_enter Tryz.func35, Tryz.ntmps35
  go_wp2_with fail
  rw [← e0]
  clear e0
  refine HE.out.mono ?_
  rintro z w1 ⟨rfl, hb1⟩
  have HB1 : Hid (Below w.heap.size w w1) := hid (by first | exact HB.out.trans (hb1.mono HB.out.size) | (subst hb1; exact HB.out))
  clear hb1
  go_wp2
  go_ret
  exact ⟨rfl, HB1.out⟩
end Of
end Go.Proofs.YtkelmhkakdeghaaGreatDoor
