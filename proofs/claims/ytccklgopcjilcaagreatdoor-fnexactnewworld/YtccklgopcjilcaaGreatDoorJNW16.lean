/- Laid together: ChM, IntsX. -/
import Derived.Test.YtccklgopcjilcaaGreatDoorJNW13
import Derived.Test.YtccklgopcjilcaaGreatDoorJNW15
import Derived.Test.YtccklgopcjilcaaGreatDoorJNW1
import Derived.Deep.QuietTactic
import Derived.BigQuiet
import Derived.Laws.OwnMore
import Derived.RangeFuncBox
/- The law's copy of a chart owns its rows; its marks. -/
namespace Go.Proofs.YtccklgopcjilcaaGreatDoor
open Go.RowKit Go.Deep
set_option linter.unusedVariables false
namespace Ch
open St (Amid row_size)
/-- A list that is a whole row of its own. -/
def OwnL (w : World) (B : Nat) (v : Value) (m : Nat) : Prop := ∃ g f, v = .slice (some ⟨g, 0, none⟩) m m ∧ B ≤ g ∧ w.rowIs g 2 (m * 1) f
theorem OwnL.below {w w' : World} {B : Nat} {v : Value} {m : Nat} (h : OwnL w B v m) (hb : Below w.heap.size w w') : OwnL w' B v m := by
  obtain ⟨g, f, rfl, h1, h2⟩ := h
  exact ⟨g, f, rfl, h1, h2.of_block (hb.block g h2.lt)⟩
theorem OwnL.mono {w : World} {B B' : Nat} {v : Value} {m : Nat} (h : OwnL w B v m) (hb : B' ≤ B) : OwnL w B' v m := by
  obtain ⟨g, f, rfl, h1, h2⟩ := h
  exact ⟨g, f, rfl, Nat.le_trans hb h1, h2⟩
theorem OwnL.amid {w w' : World} {B C D : Nat} {v : Value} {m : Nat} (h : OwnL w B v m) (ha : Amid w w' C D) (hd : D ≤ B) : OwnL w' B v m := by
  obtain ⟨g, f, rfl, h1, h2⟩ := h
  exact ⟨g, f, rfl, h1, h2.of_block (ha.block g h2.lt (.inr (by omega)))⟩
structure NO (w : World) (B : Nat) (v : Value) (xs : List Int) : Prop where
  at' : Nu.At w B v xs
  own : OwnL w B v xs.length
theorem NO.below {w w' : World} {B : Nat} {v : Value} {xs : List Int} (h : NO w B v xs) (hb : Below w.heap.size w w') : NO w' B v xs := ⟨h.at'.below hb, h.own.below hb⟩
theorem NO.mono {w : World} {B B' : Nat} {v : Value} {xs : List Int} (h : NO w B v xs) (hb : B' ≤ B) : NO w B' v xs := ⟨h.at'.mono hb, h.own.mono hb⟩
theorem NO.slice {w : World} {B : Nat} {v : Value} {xs : List Int} (h : NO w B v xs) : ∃ a cap, v = .slice a xs.length cap := h.at'.slice
theorem NO.setBelow {w : World} {B : Nat} {v : Value} {xs : List Int} (h : NO w B v xs) {b o : Nat} (ha : b < B) (x : Value) : NO (w.setCell ⟨b, o, none⟩ x) B v xs := by
  refine ⟨h.at'.setBelow ha x, ?_⟩
  obtain ⟨g, f, rfl, h1, h2⟩ := h.own
  exact ⟨g, f, rfl, h1, h2.of_block (Below.heap_setCell _ _ _ _ (by dsimp only; omega))⟩
theorem no5 {B : Nat} {w : World} {v : Value} {xs : List Int} (h : NO w B v xs) {b : Nat} (hb : b < B) (a0 a1 a2 a3 a4 : Value) : NO (((((w.setCell ⟨b, 0, none⟩ a0).setCell ⟨b, 1, none⟩ a1).setCell ⟨b, 2, none⟩ a2).setCell ⟨b, 3, none⟩ a3).setCell ⟨b, 4, none⟩ a4) B v xs :=
  ((((h.setBelow hb _).setBelow hb _).setBelow hb _).setBelow hb _).setBelow hb _
theorem NO.toS (B : Nat) (xs : List Int) (v : Value) (w : World) (hl : xs.length ≤ 1048576) (ha : Nu.At w B v xs) :
    Calls Tryz.prog 190 #[v] w fun e w' => ∃ v', e = .returned v' ∧ NO w' w.heap.size v' xs ∧ Below w.heap.size w w' :=
  (Nu.toS2 B xs v w hl ha).mono (fun e w' ⟨v', h1, h2, ⟨g, f, h3, h4, h5, h6⟩, h7⟩ => ⟨v', h1, ⟨h2, g, f, h3, h4, h6⟩, h7⟩)
structure AtO (w : World) (B : Nat) (v1 v2 v3 : Value) (r : RunD) : Prop where
  vars : NO w B v1 r.vars
  marks : NO w B v2 r.marks
  dues : NO w B v3 r.dues
theorem AtO.at' {w : World} {B : Nat} {v1 v2 v3 : Value} {r : RunD} (h : AtO w B v1 v2 v3 r) : At w B v1 v2 v3 r := ⟨h.vars.at', h.marks.at', h.dues.at'⟩
theorem AtO.below {w w' : World} {B : Nat} {v1 v2 v3 : Value} {r : RunD} (h : AtO w B v1 v2 v3 r) (hb : Below w.heap.size w w') : AtO w' B v1 v2 v3 r := ⟨h.vars.below hb, h.marks.below hb, h.dues.below hb⟩
set_option maxRecDepth 100000 in
set_option maxHeartbeats 8000000 in
theorem to2 (B : Nat) (r : RunD) (v1 v2 v3 : Value) (w : World) (hl : Small 1048576 r) (ha : At w B v1 v2 v3 r) :
    Calls Tryz.prog 158 #[.agg #[.int .i64 r.status, .int .i64 r.now, v1, v2, v3]] w fun e w' => ∃ u1 u2 u3, e = .returned (.agg #[.int .i64 r.status, .int .i64 r.now, u1, u2, u3]) ∧ AtO w' w.heap.size u1 u2 u3 r ∧ Below w.heap.size w w' := by
  obtain ⟨a1, k1, rfl⟩ := ha.vars.slice
  obtain ⟨a2, k2, rfl⟩ := ha.marks.slice
  obtain ⟨a3, k3, rfl⟩ := ha.dues.slice
  have HL := hid hl
  have KB : Hid (Below w.heap.size w (((w.alloc (.cells #[.int .i64 r.status, .int .i64 r.now, .slice a1 r.vars.length k1, .slice a2 r.marks.length k2, .slice a3 r.dues.length k3] 179)).alloc (.cells #[.int .i64 0, .int .i64 0, .slice none 0 0, .slice none 0 0, .slice none 0 0] 112)).alloc (.cells #[.int .i64 r.status, .int .i64 r.now, .slice none 0 0, .slice none 0 0, .slice none 0 0] 112))) := hid ((((Below.refl _ w).alloc (Nat.le_refl _) _).alloc (by simp) _).alloc (by simp; omega) _)
  have K0 : Hid ((((w.alloc (.cells #[.int .i64 r.status, .int .i64 r.now, .slice a1 r.vars.length k1, .slice a2 r.marks.length k2, .slice a3 r.dues.length k3] 179)).alloc (.cells #[.int .i64 0, .int .i64 0, .slice none 0 0, .slice none 0 0, .slice none 0 0] 112)).alloc (.cells #[.int .i64 r.status, .int .i64 r.now, .slice none 0 0, .slice none 0 0, .slice none 0 0] 112)).heap[w.heap.size]? = some (.cells #[.int .i64 r.status, .int .i64 r.now, .slice a1 r.vars.length k1, .slice a2 r.marks.length k2, .slice a3 r.dues.length k3] 179)) := hid (by rw [Below.heap_alloc _ _ _ (by simp; omega), Below.heap_alloc _ _ _ (by simp), new_blk])
  have K1 : Hid ((((w.alloc (.cells #[.int .i64 r.status, .int .i64 r.now, .slice a1 r.vars.length k1, .slice a2 r.marks.length k2, .slice a3 r.dues.length k3] 179)).alloc (.cells #[.int .i64 0, .int .i64 0, .slice none 0 0, .slice none 0 0, .slice none 0 0] 112)).alloc (.cells #[.int .i64 r.status, .int .i64 r.now, .slice none 0 0, .slice none 0 0, .slice none 0 0] 112)).heap[w.heap.size + 1]? = some (.cells #[.int .i64 0, .int .i64 0, .slice none 0 0, .slice none 0 0, .slice none 0 0] 112)) := hid (by rw [Below.heap_alloc _ _ _ (by simp)]; exact new_at (by simp) _)
  have K2 : Hid ((((w.alloc (.cells #[.int .i64 r.status, .int .i64 r.now, .slice a1 r.vars.length k1, .slice a2 r.marks.length k2, .slice a3 r.dues.length k3] 179)).alloc (.cells #[.int .i64 0, .int .i64 0, .slice none 0 0, .slice none 0 0, .slice none 0 0] 112)).alloc (.cells #[.int .i64 r.status, .int .i64 r.now, .slice none 0 0, .slice none 0 0, .slice none 0 0] 112)).heap[w.heap.size + 1 + 1]? = some (.cells #[.int .i64 r.status, .int .i64 r.now, .slice none 0 0, .slice none 0 0, .slice none 0 0] 112)) := hid (new_at (by simp) _)
  have HA := hid ha
  clear ha hl
  go_enter Tryz.func158, Tryz.ntmps158
  go_wp2_with fail
  generalize ((w.alloc (.cells #[.int .i64 r.status, .int .i64 r.now, .slice a1 r.vars.length k1, .slice a2 r.marks.length k2, .slice a3 r.dues.length k3] 179)).alloc (.cells #[.int .i64 0, .int .i64 0, .slice none 0 0, .slice none 0 0, .slice none 0 0] 112)).alloc (.cells #[.int .i64 r.status, .int .i64 r.now, .slice none 0 0, .slice none 0 0, .slice none 0 0] 112) = w0 at *
  refine (NO.toS B r.vars _ w0 (by have := HL.out.vars; omega) (HA.out.below KB.out).vars).mono ?_
  rintro e w1 ⟨u1, rfl, hu, hb⟩
  obtain ⟨x1, y1, rfl⟩ := hu.slice
  have KBx := KB.out.trans (hb.mono KB.out.size)
  have z0 := blk_lt K2.out
  have K0x := (hb.block _ (blk_lt K0.out)).trans K0.out
  have K1x := (hb.block _ (blk_lt K1.out)).trans K1.out
  have K2x := (hb.block _ (blk_lt K2.out)).trans K2.out
  have G0 := hid (blk_cell K2x 2)
  have g2 := blk_free K2x 2
  have z1 := blk_lt K2x
  have g1 : w1.cell? ⟨w.heap.size + 1 + 1, 2, none⟩ = some (.slice none 0 0) := by rw [G0.out]; rfl
  have K01 := hid ((Below.heap_setCell w1 ⟨w.heap.size + 1 + 1, 2, none⟩ (.slice x1 r.vars.length y1) w.heap.size (by dsimp only; omega)).trans K0x)
  have K11 := hid ((Below.heap_setCell w1 ⟨w.heap.size + 1 + 1, 2, none⟩ (.slice x1 r.vars.length y1) (w.heap.size + 1) (by dsimp only; omega)).trans K1x)
  have K21 : Hid ((w1.setCell ⟨w.heap.size + 1 + 1, 2, none⟩ (.slice x1 r.vars.length y1)).heap[w.heap.size + 1 + 1]? = some (.cells #[.int .i64 r.status, .int .i64 r.now, .slice x1 r.vars.length y1, .slice none 0 0, .slice none 0 0] 112)) := hid (by have := blk_set (i := 2) K2x (.slice x1 r.vars.length y1); simpa using this)
  have KB1 : Hid (Below w.heap.size w (w1.setCell ⟨w.heap.size + 1 + 1, 2, none⟩ (.slice x1 r.vars.length y1))) := hid (KBx.setCell (by dsimp only; omega) _)
  have HX11 : Hid (NO (w1.setCell ⟨w.heap.size + 1 + 1, 2, none⟩ (.slice x1 r.vars.length y1)) (w.heap.size + 1 + 1 + 1) (.slice x1 r.vars.length y1) r.vars) := hid ((hu.setBelow (b := w.heap.size + 1 + 1) (o := 2) (by omega) _).mono (by omega))
  have b1 : (w1.setCell ⟨w.heap.size + 1 + 1, 2, none⟩ (.slice x1 r.vars.length y1)).cell? ⟨w.heap.size, 3, none⟩ = some (.slice a2 r.marks.length k2) := by rw [blk_cell K01.out]; rfl
  have b2 := blk_lt K01.out
  clear hu hb KBx K0x K1x K2x G0 z0 KB K0 K1 K2
  go_wp2_with fail
  generalize w1.setCell ⟨w.heap.size + 1 + 1, 2, none⟩ (.slice x1 r.vars.length y1) = wA1 at *
  clear g1 g2 z1
  have b1p := b1
  have b2p := b2
  clear b1 b2
  refine (NO.toS B r.marks _ wA1 (by have := HL.out.marks; omega) (HA.out.below KB1.out).marks).mono ?_
  rintro e w2 ⟨u2, rfl, hu, hb⟩
  obtain ⟨x2, y2, rfl⟩ := hu.slice
  have KBx := KB1.out.trans (hb.mono KB1.out.size)
  have z0 := blk_lt K21.out
  have K0x := (hb.block _ (blk_lt K01.out)).trans K01.out
  have K1x := (hb.block _ (blk_lt K11.out)).trans K11.out
  have K2x := (hb.block _ (blk_lt K21.out)).trans K21.out
  have G0 := hid (blk_cell K2x 3)
  have g2 := blk_free K2x 3
  have z1 := blk_lt K2x
  have g1 : w2.cell? ⟨w.heap.size + 1 + 1, 3, none⟩ = some (.slice none 0 0) := by rw [G0.out]; rfl
  have K02 := hid ((Below.heap_setCell w2 ⟨w.heap.size + 1 + 1, 3, none⟩ (.slice x2 r.marks.length y2) w.heap.size (by dsimp only; omega)).trans K0x)
  have K12 := hid ((Below.heap_setCell w2 ⟨w.heap.size + 1 + 1, 3, none⟩ (.slice x2 r.marks.length y2) (w.heap.size + 1) (by dsimp only; omega)).trans K1x)
  have K22 : Hid ((w2.setCell ⟨w.heap.size + 1 + 1, 3, none⟩ (.slice x2 r.marks.length y2)).heap[w.heap.size + 1 + 1]? = some (.cells #[.int .i64 r.status, .int .i64 r.now, .slice x1 r.vars.length y1, .slice x2 r.marks.length y2, .slice none 0 0] 112)) := hid (by have := blk_set (i := 3) K2x (.slice x2 r.marks.length y2); simpa using this)
  have KB2 : Hid (Below w.heap.size w (w2.setCell ⟨w.heap.size + 1 + 1, 3, none⟩ (.slice x2 r.marks.length y2))) := hid (KBx.setCell (by dsimp only; omega) _)
  have HX22 : Hid (NO (w2.setCell ⟨w.heap.size + 1 + 1, 3, none⟩ (.slice x2 r.marks.length y2)) (w.heap.size + 1 + 1 + 1) (.slice x2 r.marks.length y2) r.marks) := hid ((hu.setBelow (b := w.heap.size + 1 + 1) (o := 3) (by omega) _).mono (by omega))
  have HX12 : Hid (NO (w2.setCell ⟨w.heap.size + 1 + 1, 3, none⟩ (.slice x2 r.marks.length y2)) (w.heap.size + 1 + 1 + 1) (.slice x1 r.vars.length y1) r.vars) := hid ((HX11.out.below hb).setBelow (b := w.heap.size + 1 + 1) (o := 3) (by omega) _)
  have b1 : (w2.setCell ⟨w.heap.size + 1 + 1, 3, none⟩ (.slice x2 r.marks.length y2)).cell? ⟨w.heap.size, 4, none⟩ = some (.slice a3 r.dues.length k3) := by rw [blk_cell K02.out]; rfl
  have b2 := blk_lt K02.out
  clear hu hb KBx K0x K1x K2x G0 z0 KB1 K01 K11 K21 HX11 b1p b2p
  go_wp2_with fail
  generalize w2.setCell ⟨w.heap.size + 1 + 1, 3, none⟩ (.slice x2 r.marks.length y2) = wA2 at *
  clear g1 g2 z1
  have b1p := b1
  have b2p := b2
  clear b1 b2
  refine (NO.toS B r.dues _ wA2 (by have := HL.out.dues; omega) (HA.out.below KB2.out).dues).mono ?_
  rintro e w3 ⟨u3, rfl, hu, hb⟩
  obtain ⟨x3, y3, rfl⟩ := hu.slice
  have KBx := KB2.out.trans (hb.mono KB2.out.size)
  have z0 := blk_lt K22.out
  have K0x := (hb.block _ (blk_lt K02.out)).trans K02.out
  have K1x := (hb.block _ (blk_lt K12.out)).trans K12.out
  have K2x := (hb.block _ (blk_lt K22.out)).trans K22.out
  have G0 := hid (blk_cell K2x 4)
  have g2 := blk_free K2x 4
  have z1 := blk_lt K2x
  have g1 : w3.cell? ⟨w.heap.size + 1 + 1, 4, none⟩ = some (.slice none 0 0) := by rw [G0.out]; rfl
  have K03 := hid ((Below.heap_setCell w3 ⟨w.heap.size + 1 + 1, 4, none⟩ (.slice x3 r.dues.length y3) w.heap.size (by dsimp only; omega)).trans K0x)
  have K13 := hid ((Below.heap_setCell w3 ⟨w.heap.size + 1 + 1, 4, none⟩ (.slice x3 r.dues.length y3) (w.heap.size + 1) (by dsimp only; omega)).trans K1x)
  have K23 : Hid ((w3.setCell ⟨w.heap.size + 1 + 1, 4, none⟩ (.slice x3 r.dues.length y3)).heap[w.heap.size + 1 + 1]? = some (.cells #[.int .i64 r.status, .int .i64 r.now, .slice x1 r.vars.length y1, .slice x2 r.marks.length y2, .slice x3 r.dues.length y3] 112)) := hid (by have := blk_set (i := 4) K2x (.slice x3 r.dues.length y3); simpa using this)
  have KB3 : Hid (Below w.heap.size w (w3.setCell ⟨w.heap.size + 1 + 1, 4, none⟩ (.slice x3 r.dues.length y3))) := hid (KBx.setCell (by dsimp only; omega) _)
  have HX33 : Hid (NO (w3.setCell ⟨w.heap.size + 1 + 1, 4, none⟩ (.slice x3 r.dues.length y3)) (w.heap.size + 1 + 1 + 1) (.slice x3 r.dues.length y3) r.dues) := hid ((hu.setBelow (b := w.heap.size + 1 + 1) (o := 4) (by omega) _).mono (by omega))
  have HX13 : Hid (NO (w3.setCell ⟨w.heap.size + 1 + 1, 4, none⟩ (.slice x3 r.dues.length y3)) (w.heap.size + 1 + 1 + 1) (.slice x1 r.vars.length y1) r.vars) := hid ((HX12.out.below hb).setBelow (b := w.heap.size + 1 + 1) (o := 4) (by omega) _)
  have HX23 : Hid (NO (w3.setCell ⟨w.heap.size + 1 + 1, 4, none⟩ (.slice x3 r.dues.length y3)) (w.heap.size + 1 + 1 + 1) (.slice x2 r.marks.length y2) r.marks) := hid ((HX22.out.below hb).setBelow (b := w.heap.size + 1 + 1) (o := 4) (by omega) _)
  clear hu hb KBx K0x K1x K2x G0 z0 KB2 K02 K12 K22 HX12 HX22 b1p b2p
  go_upto_region 7 with fail
  generalize w3.setCell ⟨w.heap.size + 1 + 1, 4, none⟩ (.slice x3 r.dues.length y3) = wA3 at *
  clear g1 g2 z1
  have c0 := (blk_cell K23.out 0)
  have c1 := (blk_cell K23.out 1)
  have c2 := (blk_cell K23.out 2)
  have c3 := (blk_cell K23.out 3)
  have c4 := (blk_cell K23.out 4)
  have d0 := (blk_cell K13.out 0)
  have d1 := (blk_cell K13.out 1)
  have d2 := (blk_cell K13.out 2)
  have d3 := (blk_cell K13.out 3)
  have d4 := (blk_cell K13.out 4)
  have f0 := (blk_free K13.out 0)
  have f1 := (blk_free K13.out 1)
  have f2 := (blk_free K13.out 2)
  have f3 := (blk_free K13.out 3)
  have f4 := (blk_free K13.out 4)
  simp at c0 c1 c2 c3 c4 d0 d1 d2 d3 d4
  have z0 := blk_lt K23.out
  have z1 := blk_lt K13.out
  go_wp2
  refine bodyPost_ret (results_cell_row Tryz.results158 _ _ (w.heap.size + 1) 112 #[.int .i64 r.status, .int .i64 r.now, .slice x1 r.vars.length y1, .slice x2 r.marks.length y2, .slice x3 r.dues.length y3] (0, 0) _ rfl (set5 K13.out _ _ _ _ _) Tryz.underlying112 rfl info5) rfl ⟨_, _, _, rfl, ⟨?_, ?_, ?_⟩, ?_⟩
  · exact (no5 HX13.out (by omega) _ _ _ _ _).mono (by omega)
  · exact (no5 HX23.out (by omega) _ _ _ _ _).mono (by omega)
  · exact (no5 HX33.out (by omega) _ _ _ _ _).mono (by omega)
  · exact below5 KB3.out (by omega) _ _ _ _ _
/-- A whole row between two blocks. -/
def OwnC (w : World) (B C : Nat) (v : Value) (m : Nat) : Prop := ∃ g f, v = .slice (some ⟨g, 0, none⟩) m m ∧ B ≤ g ∧ g < C ∧ w.rowIs g 2 (m * 1) f
theorem OwnC.below {w w' : World} {B C : Nat} {v : Value} {m : Nat} (h : OwnC w B C v m) (hb : Below w.heap.size w w') : OwnC w' B C v m := by
  obtain ⟨g, f, rfl, h1, h1', h2⟩ := h
  exact ⟨g, f, rfl, h1, h1', h2.of_block (hb.block g h2.lt)⟩
theorem OwnC.amid {w w' : World} {B C E F : Nat} {v : Value} {m : Nat} (h : OwnC w B C v m) (ha : Amid w w' E F) (hd : F ≤ B) : OwnC w' B C v m := by
  obtain ⟨g, f, rfl, h1, h1', h2⟩ := h
  exact ⟨g, f, rfl, h1, h1', h2.of_block (ha.block g h2.lt (.inr (by omega)))⟩
theorem OwnL.upto {w : World} {B : Nat} {v : Value} {m : Nat} (h : OwnL w B v m) : OwnC w B w.heap.size v m := by
  obtain ⟨g, f, rfl, h1, h2⟩ := h
  exact ⟨g, f, rfl, h1, h2.lt, h2⟩
/-- The three rows alone, whatever they hold. -/
structure Rows3 (w : World) (B C : Nat) (v1 v2 v3 : Value) (r : RunD) : Prop where
  vars : OwnC w B C v1 r.vars.length
  marks : OwnC w B C v2 r.marks.length
  dues : OwnC w B C v3 r.dues.length
theorem AtO.rows {w : World} {B : Nat} {v1 v2 v3 : Value} {r : RunD} (h : AtO w B v1 v2 v3 r) : Rows3 w B w.heap.size v1 v2 v3 r := ⟨h.vars.own.upto, h.marks.own.upto, h.dues.own.upto⟩
theorem Rows3.below {w w' : World} {B C : Nat} {v1 v2 v3 : Value} {r : RunD} (h : Rows3 w B C v1 v2 v3 r) (hb : Below w.heap.size w w') : Rows3 w' B C v1 v2 v3 r := ⟨h.vars.below hb, h.marks.below hb, h.dues.below hb⟩
theorem Rows3.amid {w w' : World} {B C E F : Nat} {v1 v2 v3 : Value} {r : RunD} (h : Rows3 w B C v1 v2 v3 r) (ha : Amid w w' E F) (hd : F ≤ B) : Rows3 w' B C v1 v2 v3 r := ⟨h.vars.amid ha hd, h.marks.amid ha hd, h.dues.amid ha hd⟩
set_option maxRecDepth 100000 in
set_option maxHeartbeats 4000000 in
theorem markL (g : Nat) (m : Nat) (f : Nat → Value) (k : Int) (w : World) (hm : m ≤ 1048576) (h0 : 0 < k) (hk : k ≤ 17592186044416) (hr : w.rowIs g 2 (m * 1) f) :
    Calls Tryz.prog 126 #[.slice (some ⟨g, 0, none⟩) m m, .int .i64 k] w fun e w' => e = .returned (.int .i64 (k + (m : Int))) ∧ (∃ f', w'.rowIs g 2 (m * 1) f') ∧ Amid w w' g (g + 1) := by
  have HR := hid hr
  clear hr
  go_enter Tryz.func126, Tryz.ntmps126
  go_wp2
  go_loopw [1, 5] (fun q i wr => ∃ (j : Nat) (f' : Nat → Value), i = .int .i64 j ∧ q = .int .i64 (k + (j : Int)) ∧ j ≤ m ∧ Hid (wr.rowIs g 2 (m * 1) f') ∧ Hid (Amid w wr g (g + 1))) (fun _ i _ => m - (intOf i).toNat)
  case atStart => exact ⟨0, f, rfl, by simp, Nat.zero_le _, HR, hid (Amid.refl _ _ _)⟩
  case round =>
    obtain ⟨j, f', rfl, rfl, hj, HW, HAM⟩ := hrel
    by_cases hlt : j < m
    · have q1 : (j : Int) < (m : Int) := by omega
      have d0 := HW.out.cell (i := j) (by omega)
      have f0 := HW.out.frozen j
      have HR2 := hid (HW.out.set j (.int .i64 (k + (j : Int))))
      have HA2 := hid (HAM.out.trans (Amid.set wr j (.int .i64 (k + (j : Int))) (Nat.le_refl _) (Nat.lt_succ_self _)))
      go_wp2
      exact ⟨⟨j + 1, _, by simp, by simp; omega, by omega, HR2, HA2⟩, by simp [intOf]; omega⟩
    · obtain rfl : j = m := by omega
      go_wp2
      go_ret
      exact ⟨rfl, ⟨f', HW.out⟩, HAM.out⟩
theorem OwnC.marked {w w' : World} {B C g n m : Nat} {v : Value} {f : Nat → Value} (h : OwnC w B C v m) (hA : Amid w w' g (g + 1)) (hr : w.rowIs g 2 (n * 1) f) (hr' : ∃ f', w'.rowIs g 2 (n * 1) f') : OwnC w' B C v m := by
  obtain ⟨gi, fi, hvi, hi1, hi2, hri⟩ := h
  by_cases e3 : gi = g
  · subst e3
    have hs := row_size hri hr
    obtain ⟨f', hf'⟩ := hr'
    exact ⟨gi, f', hvi, hi1, hi2, by rw [hs]; exact hf'⟩
  · exact ⟨gi, fi, hvi, hi1, hi2, hri.of_block (hA.block gi hri.lt (by omega))⟩
theorem Rows3.marked {w w' : World} {B C g n : Nat} {v1 v2 v3 : Value} {r : RunD} {f : Nat → Value} (h : Rows3 w B C v1 v2 v3 r) (hA : Amid w w' g (g + 1)) (hr : w.rowIs g 2 (n * 1) f) (hr' : ∃ f', w'.rowIs g 2 (n * 1) f') : Rows3 w' B C v1 v2 v3 r := ⟨h.vars.marked hA hr hr', h.marks.marked hA hr hr', h.dues.marked hA hr hr'⟩
theorem row_in {w : World} {g n : Nat} {t : TypeId} {f : Nat → Value} (h : w.rowIs g t n f) : g < w.heap.size := h.lt
end Ch
end Go.Proofs.YtccklgopcjilcaaGreatDoor
/- The law's own helpers over lists of numbers: whether two are the same, marks written into one, and whether it still holds them. -/
namespace Go.Proofs.YtccklgopcjilcaaGreatDoor
open Go.RowKit
set_option linter.unusedVariables false
namespace Ints
open Ex (hid)
def vals (xs : List Int) : List Value := xs.map fun x => .int .i64 x
/-- A slice of numbers that lies in memory. -/
def IntsAt (w : World) (v : Value) (xs : List Int) : Prop :=
  (v = .slice none 0 0 ∧ xs = []) ∨ ∃ g cap, v = .slice (some ⟨g, 0, none⟩) xs.length cap ∧ g < w.heap.size ∧ ∀ i x, xs[i]? = some x → w.cell? ⟨g, i, none⟩ = some (.int .i64 x)
theorem IntsAt.slice {w : World} {v : Value} {xs : List Int} (h : IntsAt w v xs) : ∃ a cap, v = .slice a xs.length cap := by
  rcases h with ⟨rfl, rfl⟩ | ⟨g, cap, rfl, _⟩
  · exact ⟨none, 0, rfl⟩
  · exact ⟨_, _, rfl⟩
theorem IntsAt.at {w : World} {a : Option Addr} {n cap : Nat} {xs : List Int} (h : IntsAt w (.slice a n cap) xs) {i : Nat} (hi : i < xs.length) : ∃ g, a = some ⟨g, 0, none⟩ ∧ g < w.heap.size ∧ w.cell? ⟨g, i, none⟩ = some (.int .i64 xs[i]) := by
  rcases h with ⟨_, rfl⟩ | ⟨g, cap, e, hg, hc⟩
  · simp at hi
  · cases e
    exact ⟨g, rfl, hg, hc i _ (List.getElem?_eq_getElem hi)⟩
theorem IntsAt.kept {w w' : World} {v : Value} {xs : List Int} (h : IntsAt w v xs) (hs : w.heap.size ≤ w'.heap.size) (hb : ∀ b, v.ownBlock = some b → b < w.heap.size → w'.heap[b]? = w.heap[b]?) : IntsAt w' v xs := by
  rcases h with h | ⟨g, cap, rfl, hg, hc⟩
  · exact .inl h
  · exact .inr ⟨g, cap, rfl, Nat.lt_of_lt_of_le hg hs, fun i x hx => by simp only [World.cell?, hb g rfl hg]; exact hc i x hx⟩
theorem IntsAt.below {w w' : World} {v : Value} {xs : List Int} (h : IntsAt w v xs) (hb : Below w.heap.size w w') : IntsAt w' v xs := h.kept hb.size (fun b _ h => hb.block b h)
theorem IntsAt.of {w : World} {base : Nat} {v : Value} {xs : List Int} (h : w.ownsRow base 2 1 v xs.length (vals xs)) : IntsAt w v xs := by
  obtain ⟨hl, ⟨rfl, h0⟩ | ⟨g, cap, cur, rfl, hbg, hg, hle, hm, hs, ht⟩⟩ := h
  · exact .inl ⟨rfl, List.length_eq_zero_iff.1 h0⟩
  · refine .inr ⟨g, cap, rfl, (Array.getElem?_eq_some_iff.1 hg).1, fun i t hti => ?_⟩
    have hi : i < xs.length := (List.getElem?_eq_some_iff.1 hti).1
    have : cur[i]? = some (.int .i64 t) := by
      have h2 := congrArg (·[i]?) ht
      simp only [vals, Nat.mul_one, List.getElem?_take, List.getElem?_map, hti, Option.map_some, hi, if_true] at h2
      simpa using h2
    simp [World.cell?, hg, this]
theorem below_drewN {B : Nat} {a w : World} (h : Below B a w) (n : Nat) : Below B a (w.drewN n) := ⟨h.os, h.tape, h.output, h.size, h.block⟩
set_option maxRecDepth 100000 in
set_option maxHeartbeats 2000000 in
theorem eqS (v1 v2 : Value) (xs : List Int) (w : World) (hn : xs.length ≤ 1048576) (h1 : IntsAt w v1 xs) (h2 : IntsAt w v2 xs) :
    Calls Tryz.prog 201 #[v1, v2] w fun e w' => e = .returned (.bool true) ∧ Below w.heap.size w w' := by
  obtain ⟨a1, c1, rfl⟩ := h1.slice
  obtain ⟨a2, c2, rfl⟩ := h2.slice
  have H1 := hid h1
  have H2 := hid h2
  clear h1 h2
  have hb : ((xs.length : Int) != (xs.length : Int)) = false := by simp
  go_enter Tryz.func201, Tryz.ntmps201
  go_wp2
  go_loopw [5] (fun i wr => ∃ k : Nat, i = .int .i64 k ∧ k ≤ xs.length ∧ Below w.heap.size w wr) (fun i _ => xs.length - (intOf i).toNat)
  case atStart => exact ⟨0, rfl, Nat.zero_le _, Below.refl _ _⟩
  case round =>
    obtain ⟨k, rfl, hk, hbel⟩ := hrel
    by_cases hlt : k < xs.length
    · obtain ⟨g1, rfl, hg1, hc1⟩ := (H1.out.below hbel).at hlt
      obtain ⟨g2, rfl, hg2, hc2⟩ := (H2.out.below hbel).at hlt
      generalize xs[k] = x at *
      have hne : (x != x) = false := by simp
      have hne2 : (x == x) = true := by simp
      have q1 : (k : Int) < (xs.length : Int) := by omega
      go_wp2
      go_quiet (fail)
      go_wp2
      exact ⟨⟨k + 1, by simp, by omega, below_drewN hbel nq⟩, by simp [intOf]; omega⟩
    · go_wp2
      go_ret
      exact ⟨rfl, hbel⟩
def marksTo (n : Nat) : List Int := (List.range n).map fun (i : Nat) => (i : Int) + 1
theorem marksTo_len (n : Nat) : (marksTo n).length = n := by simp [marksTo]
theorem marksTo_succ (n : Nat) : marksTo (n + 1) = marksTo n ++ [(n : Int) + 1] := by simp [marksTo, List.range_succ]
theorem marksTo_get {n i : Nat} (h : i < n) : (marksTo n)[i]? = some ((i : Int) + 1) := by simp [marksTo, h]
def half (xs : List Int) (i : Nat) : List Int := marksTo i ++ xs.drop i
theorem half_set {xs : List Int} {i : Nat} (h : i < xs.length) : (half xs i).set i ((i : Int) + 1) = half xs (i + 1) := by
  unfold half
  rw [marksTo_succ, List.drop_eq_getElem_cons h, List.set_append_right _ _ (Nat.le_of_eq (marksTo_len i)), marksTo_len, Nat.sub_self, List.set_cons_zero, List.append_assoc]
  rfl
theorem owns_cell {w : World} {base g n cap i : Nat} {e : TypeId} {xs : List Value} (h : w.ownsRow base e 1 (.slice (some ⟨g, 0, none⟩) n cap) n xs) (hi : i < n) :
    (∃ u, w.cell? ⟨g, i, none⟩ = some u) ∧ w.frozen? ⟨g, i, none⟩ = false ∧ base ≤ g ∧ g < w.heap.size := by
  obtain ⟨hl, ⟨h0, _⟩ | ⟨g', cap', cur, hv, hbg, hg, hle, hm, hs, ht⟩⟩ := h
  · cases h0
  · cases hv
    have hlt : i < cur.size := by omega
    exact ⟨⟨cur[i], by simp [World.cell?, hg, hlt]⟩, by simp [World.frozen?, hg], hbg, (Array.getElem?_eq_some_iff.1 hg).1⟩
theorem owns_some {w : World} {base n : Nat} {e : TypeId} {v : Value} {xs : List Value} (h : w.ownsRow base e 1 v n xs) (hn : 0 < n) : ∃ g cap, v = .slice (some ⟨g, 0, none⟩) n cap := by
  obtain ⟨hl, ⟨_, h0⟩ | ⟨g', cap', cur, hv, _⟩⟩ := h
  · omega
  · exact ⟨_, _, hv⟩
theorem owns_slice {w : World} {base n : Nat} {e : TypeId} {v : Value} {xs : List Value} (h : w.ownsRow base e 1 v n xs) : ∃ a cap, v = .slice a n cap := by
  obtain ⟨hl, ⟨rfl, rfl⟩ | ⟨g', cap', cur, hv, _⟩⟩ := h
  · exact ⟨_, _, rfl⟩
  · exact ⟨_, _, hv⟩
theorem owns_below {w w' : World} {base : Nat} {e : TypeId} {size n : Nat} {v : Value} {xs : List Value} (h : w.ownsRow base e size v n xs) (hb : Below w.heap.size w w') : w'.ownsRow base e size v n xs :=
  h.kept (row := none) ⟨hb.os, hb.tape, hb.output, hb.size, fun k hk _ => hb.block k hk⟩ (by cases v.ownBlock <;> simp)
theorem grown_refl (w : World) (row : Option Nat) : w.grownBy w row := ⟨rfl, rfl, rfl, Nat.le_refl _, fun _ _ _ => rfl⟩
theorem grown_after {w w1 w2 : World} {row : Option Nat} (h : w.grownBy w1 row) (h2 : w1.grownBy w2 row) : w.grownBy w2 row :=
  ⟨h2.os.trans h.os, h2.tape.trans h.tape, h2.output.trans h.output, Nat.le_trans h.size h2.size, fun k hk hr => (h2.block k (Nat.lt_of_lt_of_le hk h.size) hr).trans (h.block k hk hr)⟩
theorem grown_set {w w1 : World} {g : Nat} (h : w.grownBy w1 (some g)) (i : Nat) (u : Value) : w.grownBy (w1.setCell ⟨g, i, none⟩ u) (some g) :=
  grown_after h ⟨rfl, rfl, rfl, by simp [World.setCell], fun k hk hr => Below.heap_setCell _ _ _ _ (fun e => hr (by rw [e]))⟩
set_option maxRecDepth 100000 in
set_option maxHeartbeats 2000000 in
theorem markS (B : Nat) (v : Value) (xs : List Int) (w : World) (hn : xs.length ≤ 1048576) (h : w.ownsRow B 2 1 v xs.length (vals xs)) :
    Calls Tryz.prog 126 #[v, .int .i64 1] w fun e w' => e = .returned (.int .i64 (1 + (xs.length : Int))) ∧ w'.ownsRow B 2 1 v xs.length (vals (marksTo xs.length)) ∧ w.grownBy w' v.ownBlock := by
  obtain ⟨a, cap, rfl⟩ := owns_slice h
  have HO := hid h
  clear h
  go_enter Tryz.func126, Tryz.ntmps126
  go_wp2
  go_loopw [1, 5] (fun q i wr => ∃ k : Nat, i = .int .i64 k ∧ q = .int .i64 (1 + (k : Int)) ∧ k ≤ xs.length ∧ Hid (wr.ownsRow B 2 1 (.slice a xs.length cap) xs.length (vals (half xs k))) ∧ w.grownBy wr (Value.slice a xs.length cap).ownBlock) (fun _ i _ => xs.length - (intOf i).toNat)
  case atStart => exact ⟨0, rfl, rfl, Nat.zero_le _, hid (by simpa [half, marksTo] using HO.out), grown_refl _ _⟩
  case round =>
    obtain ⟨k, rfl, rfl, hk, HR, hbel⟩ := hrel
    by_cases hlt : k < xs.length
    · obtain ⟨g, c2, e2⟩ := owns_some HR.out (by omega)
      cases e2
      have q1 : (k : Int) < (xs.length : Int) := by omega
      obtain ⟨⟨u, hcu⟩, hfu, hbg, hgl⟩ := owns_cell HR.out hlt
      have HS : Hid ((wr.setCell ⟨g, k, none⟩ (.int .i64 (1 + (k : Int)))).ownsRow B 2 1 (.slice (some ⟨g, 0, none⟩) xs.length cap) xs.length (vals (half xs (k + 1)))) := hid (by
        have h := (HR.out.stored k (.int .i64 (1 + (k : Int)))).1
        have e : (vals (half xs k)).set k (.int .i64 (1 + (k : Int))) = vals (half xs (k + 1)) := by
          unfold vals
          rw [show (1 + (k : Int)) = (k : Int) + 1 by omega, ← half_set hlt]
          simp
        rw [e] at h
        exact h)
      have hb2 : w.grownBy (wr.setCell ⟨g, k, none⟩ (.int .i64 (1 + (k : Int)))) (some g) := grown_set hbel k _
      go_wp2
      exact ⟨⟨k + 1, by simp, by simp; omega, by omega, HS, hb2⟩, by simp [intOf]; omega⟩
    · obtain rfl : k = xs.length := by omega
      have HS : Hid (wr.ownsRow B 2 1 (.slice a xs.length cap) xs.length (vals (marksTo xs.length))) := hid (by simpa [half] using HR.out)
      go_wp2
      go_ret
      exact ⟨rfl, HS.out, hbel⟩
set_option maxRecDepth 100000 in
set_option maxHeartbeats 2000000 in
theorem heldS (v : Value) (n : Nat) (w : World) (hn : n ≤ 1048576) (h : IntsAt w v (marksTo n)) :
    Calls Tryz.prog 170 #[v, .int .i64 1] w fun e w' => e = .returned (.int .i64 (1 + (n : Int))) ∧ w' = w := by
  obtain ⟨a, cap, rfl⟩ := h.slice
  rw [marksTo_len] at h ⊢
  have H1 := hid h
  clear h
  go_enter Tryz.func170, Tryz.ntmps170
  go_wp2
  go_loop [1, 5] (fun q i => ∃ k : Nat, i = .int .i64 k ∧ q = .int .i64 (1 + (k : Int)) ∧ k ≤ n) (fun _ i => n - (intOf i).toNat)
  case atStart => exact ⟨0, rfl, rfl, Nat.zero_le _⟩
  case round =>
    obtain ⟨k, rfl, rfl, hk⟩ := hrel
    by_cases hlt : k < n
    · obtain ⟨g, rfl, hg, hc⟩ := H1.out.at (i := k) (by rw [marksTo_len]; exact hlt)
      have hmt : (marksTo n)[k]'(by rw [marksTo_len]; exact hlt) = 1 + (k : Int) := by
        have h := marksTo_get hlt
        rw [List.getElem?_eq_getElem (by rw [marksTo_len]; exact hlt)] at h
        rw [Option.some.inj h]; omega
      rw [hmt] at hc
      have hne : ((1 + (k : Int)) != (1 + (k : Int))) = false := by simp
      clear hmt
      have q1 : (k : Int) < (n : Int) := by omega
      go_wp2
      exact ⟨⟨k + 1, by simp, by simp; omega, by omega⟩, by simp [intOf]; omega⟩
    · obtain rfl : k = n := by omega
      go_wp2
      go_ret
      exact ⟨rfl, rfl⟩
end Ints
end Go.Proofs.YtccklgopcjilcaaGreatDoor
