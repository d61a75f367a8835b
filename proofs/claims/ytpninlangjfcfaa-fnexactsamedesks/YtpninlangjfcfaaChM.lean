/- The law's copy of a chart owns its rows; its marks. -/
import Derived.Test.YtpninlangjfcfaaChA
import Derived.Test.YtpninlangjfcfaaStM
namespace Go.Proofs.Ytpninlangjfcfaa
open Go.RowKit Go.Deep
set_option linter.unusedVariables false
namespace Ch
open St (Amid row_size)
/-- A list that is a whole row of its own. -/
def OwnL (w : World) (B : Nat) (v : Value) (m : Nat) : Prop := ∃ g f, v = .slice (some ⟨g, 0, none⟩) m m ∧ B ≤ g ∧ w.rowIs g 2 (m * 1) f
theorem OwnL.below {w w' : World} {B : Nat} {v : Value} {m : Nat} (h : OwnL w B v m) (hb : Below w.heap.size w w') : OwnL w' B v m := by
  obtain ⟨g, f, rfl, h1, h2⟩ := h
  exact ⟨g, f, rfl, h1, h2.of_block (hb.block g h2.lt)⟩
theorem OwnL.mono {w : World} {B B' : Nat} {v : Value} {m : Nat} (h : OwnL w B v m) (hb : B' ≤ B) : OwnL w B' v m := by
  obtain ⟨g, f, rfl, h1, h2⟩ := h
  exact ⟨g, f, rfl, Nat.le_trans hb h1, h2⟩
theorem OwnL.amid {w w' : World} {B C D : Nat} {v : Value} {m : Nat} (h : OwnL w B v m) (ha : Amid w w' C D) (hd : D ≤ B) : OwnL w' B v m := by
  obtain ⟨g, f, rfl, h1, h2⟩ := h
  exact ⟨g, f, rfl, h1, h2.of_block (ha.block g h2.lt (.inr (by omega)))⟩
structure NO (w : World) (B : Nat) (v : Value) (xs : List Int) : Prop where
  at' : Nu.At w B v xs
  own : OwnL w B v xs.length
theorem NO.below {w w' : World} {B : Nat} {v : Value} {xs : List Int} (h : NO w B v xs) (hb : Below w.heap.size w w') : NO w' B v xs := ⟨h.at'.below hb, h.own.below hb⟩
theorem NO.mono {w : World} {B B' : Nat} {v : Value} {xs : List Int} (h : NO w B v xs) (hb : B' ≤ B) : NO w B' v xs := ⟨h.at'.mono hb, h.own.mono hb⟩
theorem NO.slice {w : World} {B : Nat} {v : Value} {xs : List Int} (h : NO w B v xs) : ∃ a cap, v = .slice a xs.length cap := h.at'.slice
theorem NO.setBelow {w : World} {B : Nat} {v : Value} {xs : List Int} (h : NO w B v xs) {b o : Nat} (ha : b < B) (x : Value) : NO (w.setCell ⟨b, o, none⟩ x) B v xs := by
  refine ⟨h.at'.setBelow ha x, ?_⟩
  obtain ⟨g, f, rfl, h1, h2⟩ := h.own
  exact ⟨g, f, rfl, h1, h2.of_block (Below.heap_setCell _ _ _ _ (by dsimp only; omega))⟩
theorem no5 {B : Nat} {w : World} {v : Value} {xs : List Int} (h : NO w B v xs) {b : Nat} (hb : b < B) (a0 a1 a2 a3 a4 : Value) : NO (((((w.setCell ⟨b, 0, none⟩ a0).setCell ⟨b, 1, none⟩ a1).setCell ⟨b, 2, none⟩ a2).setCell ⟨b, 3, none⟩ a3).setCell ⟨b, 4, none⟩ a4) B v xs :=
  ((((h.setBelow hb _).setBelow hb _).setBelow hb _).setBelow hb _).setBelow hb _
theorem NO.toS (B : Nat) (xs : List Int) (v : Value) (w : World) (hl : xs.length ≤ 1048576) (ha : Nu.At w B v xs) :
    Calls Try.prog 53 #[v] w fun e w' => ∃ v', e = .returned v' ∧ NO w' w.heap.size v' xs ∧ Below w.heap.size w w' :=
  (Nu.toS2 B xs v w hl ha).mono (fun e w' ⟨v', h1, h2, ⟨g, f, h3, h4, h5, h6⟩, h7⟩ => ⟨v', h1, ⟨h2, g, f, h3, h4, h6⟩, h7⟩)
structure AtO (w : World) (B : Nat) (v1 v2 v3 : Value) (r : RunD) : Prop where
  vars : NO w B v1 r.vars
  marks : NO w B v2 r.marks
  dues : NO w B v3 r.dues
theorem AtO.at' {w : World} {B : Nat} {v1 v2 v3 : Value} {r : RunD} (h : AtO w B v1 v2 v3 r) : At w B v1 v2 v3 r := ⟨h.vars.at', h.marks.at', h.dues.at'⟩
theorem AtO.below {w w' : World} {B : Nat} {v1 v2 v3 : Value} {r : RunD} (h : AtO w B v1 v2 v3 r) (hb : Below w.heap.size w w') : AtO w' B v1 v2 v3 r := ⟨h.vars.below hb, h.marks.below hb, h.dues.below hb⟩
set_option maxRecDepth 100000 in
set_option maxHeartbeats 8000000 in
theorem to2 (B : Nat) (r : RunD) (v1 v2 v3 : Value) (w : World) (hl : Small 1048576 r) (ha : At w B v1 v2 v3 r) :
    Calls Try.prog 44 #[.agg #[.int .i64 r.status, .int .i64 r.now, v1, v2, v3]] w fun e w' => ∃ u1 u2 u3, e = .returned (.agg #[.int .i64 r.status, .int .i64 r.now, u1, u2, u3]) ∧ AtO w' w.heap.size u1 u2 u3 r ∧ Below w.heap.size w w' := by
  obtain ⟨a1, k1, rfl⟩ := ha.vars.slice
  obtain ⟨a2, k2, rfl⟩ := ha.marks.slice
  obtain ⟨a3, k3, rfl⟩ := ha.dues.slice
  have HL := hid hl
  have KB : Hid (Below w.heap.size w (((w.alloc (.cells #[.int .i64 r.status, .int .i64 r.now, .slice a1 r.vars.length k1, .slice a2 r.marks.length k2, .slice a3 r.dues.length k3] 74)).alloc (.cells #[.int .i64 0, .int .i64 0, .slice none 0 0, .slice none 0 0, .slice none 0 0] 56)).alloc (.cells #[.int .i64 r.status, .int .i64 r.now, .slice none 0 0, .slice none 0 0, .slice none 0 0] 56))) := hid ((((Below.refl _ w).alloc (Nat.le_refl _) _).alloc (by simp) _).alloc (by simp; omega) _)
  have K0 : Hid ((((w.alloc (.cells #[.int .i64 r.status, .int .i64 r.now, .slice a1 r.vars.length k1, .slice a2 r.marks.length k2, .slice a3 r.dues.length k3] 74)).alloc (.cells #[.int .i64 0, .int .i64 0, .slice none 0 0, .slice none 0 0, .slice none 0 0] 56)).alloc (.cells #[.int .i64 r.status, .int .i64 r.now, .slice none 0 0, .slice none 0 0, .slice none 0 0] 56)).heap[w.heap.size]? = some (.cells #[.int .i64 r.status, .int .i64 r.now, .slice a1 r.vars.length k1, .slice a2 r.marks.length k2, .slice a3 r.dues.length k3] 74)) := hid (by rw [Below.heap_alloc _ _ _ (by simp; omega), Below.heap_alloc _ _ _ (by simp), new_blk])
  have K1 : Hid ((((w.alloc (.cells #[.int .i64 r.status, .int .i64 r.now, .slice a1 r.vars.length k1, .slice a2 r.marks.length k2, .slice a3 r.dues.length k3] 74)).alloc (.cells #[.int .i64 0, .int .i64 0, .slice none 0 0, .slice none 0 0, .slice none 0 0] 56)).alloc (.cells #[.int .i64 r.status, .int .i64 r.now, .slice none 0 0, .slice none 0 0, .slice none 0 0] 56)).heap[w.heap.size + 1]? = some (.cells #[.int .i64 0, .int .i64 0, .slice none 0 0, .slice none 0 0, .slice none 0 0] 56)) := hid (by rw [Below.heap_alloc _ _ _ (by simp)]; exact new_at (by simp) _)
  have K2 : Hid ((((w.alloc (.cells #[.int .i64 r.status, .int .i64 r.now, .slice a1 r.vars.length k1, .slice a2 r.marks.length k2, .slice a3 r.dues.length k3] 74)).alloc (.cells #[.int .i64 0, .int .i64 0, .slice none 0 0, .slice none 0 0, .slice none 0 0] 56)).alloc (.cells #[.int .i64 r.status, .int .i64 r.now, .slice none 0 0, .slice none 0 0, .slice none 0 0] 56)).heap[w.heap.size + 1 + 1]? = some (.cells #[.int .i64 r.status, .int .i64 r.now, .slice none 0 0, .slice none 0 0, .slice none 0 0] 56)) := hid (new_at (by simp) _)
  have HA := hid ha
  clear ha hl
  go_enter Try.func44, Try.ntmps44
  go_wp2_with fail
  generalize ((w.alloc (.cells #[.int .i64 r.status, .int .i64 r.now, .slice a1 r.vars.length k1, .slice a2 r.marks.length k2, .slice a3 r.dues.length k3] 74)).alloc (.cells #[.int .i64 0, .int .i64 0, .slice none 0 0, .slice none 0 0, .slice none 0 0] 56)).alloc (.cells #[.int .i64 r.status, .int .i64 r.now, .slice none 0 0, .slice none 0 0, .slice none 0 0] 56) = w0 at *
  refine (NO.toS B r.vars _ w0 (by have := HL.out.vars; omega) (HA.out.below KB.out).vars).mono ?_
  rintro e w1 ⟨u1, rfl, hu, hb⟩
  obtain ⟨x1, y1, rfl⟩ := hu.slice
  have KBx := KB.out.trans (hb.mono KB.out.size)
  have z0 := blk_lt K2.out
  have K0x := (hb.block _ (blk_lt K0.out)).trans K0.out
  have K1x := (hb.block _ (blk_lt K1.out)).trans K1.out
  have K2x := (hb.block _ (blk_lt K2.out)).trans K2.out
  have G0 := hid (blk_cell K2x 2)
  have g2 := blk_free K2x 2
  have z1 := blk_lt K2x
  have g1 : w1.cell? ⟨w.heap.size + 1 + 1, 2, none⟩ = some (.slice none 0 0) := by rw [G0.out]; rfl
  have K01 := hid ((Below.heap_setCell w1 ⟨w.heap.size + 1 + 1, 2, none⟩ (.slice x1 r.vars.length y1) w.heap.size (by dsimp only; omega)).trans K0x)
  have K11 := hid ((Below.heap_setCell w1 ⟨w.heap.size + 1 + 1, 2, none⟩ (.slice x1 r.vars.length y1) (w.heap.size + 1) (by dsimp only; omega)).trans K1x)
  have K21 : Hid ((w1.setCell ⟨w.heap.size + 1 + 1, 2, none⟩ (.slice x1 r.vars.length y1)).heap[w.heap.size + 1 + 1]? = some (.cells #[.int .i64 r.status, .int .i64 r.now, .slice x1 r.vars.length y1, .slice none 0 0, .slice none 0 0] 56)) := hid (by have := blk_set (i := 2) K2x (.slice x1 r.vars.length y1); simpa using this)
  have KB1 : Hid (Below w.heap.size w (w1.setCell ⟨w.heap.size + 1 + 1, 2, none⟩ (.slice x1 r.vars.length y1))) := hid (KBx.setCell (by dsimp only; omega) _)
  have HX11 : Hid (NO (w1.setCell ⟨w.heap.size + 1 + 1, 2, none⟩ (.slice x1 r.vars.length y1)) (w.heap.size + 1 + 1 + 1) (.slice x1 r.vars.length y1) r.vars) := hid ((hu.setBelow (b := w.heap.size + 1 + 1) (o := 2) (by omega) _).mono (by omega))
  have b1 : (w1.setCell ⟨w.heap.size + 1 + 1, 2, none⟩ (.slice x1 r.vars.length y1)).cell? ⟨w.heap.size, 3, none⟩ = some (.slice a2 r.marks.length k2) := by rw [blk_cell K01.out]; rfl
  have b2 := blk_lt K01.out
  clear hu hb KBx K0x K1x K2x G0 z0 KB K0 K1 K2
  go_wp2_with fail
  generalize w1.setCell ⟨w.heap.size + 1 + 1, 2, none⟩ (.slice x1 r.vars.length y1) = wA1 at *
  clear g1 g2 z1
  have b1p := b1
  have b2p := b2
  clear b1 b2
  refine (NO.toS B r.marks _ wA1 (by have := HL.out.marks; omega) (HA.out.below KB1.out).marks).mono ?_
  rintro e w2 ⟨u2, rfl, hu, hb⟩
  obtain ⟨x2, y2, rfl⟩ := hu.slice
  have KBx := KB1.out.trans (hb.mono KB1.out.size)
  have z0 := blk_lt K21.out
  have K0x := (hb.block _ (blk_lt K01.out)).trans K01.out
  have K1x := (hb.block _ (blk_lt K11.out)).trans K11.out
  have K2x := (hb.block _ (blk_lt K21.out)).trans K21.out
  have G0 := hid (blk_cell K2x 3)
  have g2 := blk_free K2x 3
  have z1 := blk_lt K2x
  have g1 : w2.cell? ⟨w.heap.size + 1 + 1, 3, none⟩ = some (.slice none 0 0) := by rw [G0.out]; rfl
  have K02 := hid ((Below.heap_setCell w2 ⟨w.heap.size + 1 + 1, 3, none⟩ (.slice x2 r.marks.length y2) w.heap.size (by dsimp only; omega)).trans K0x)
  have K12 := hid ((Below.heap_setCell w2 ⟨w.heap.size + 1 + 1, 3, none⟩ (.slice x2 r.marks.length y2) (w.heap.size + 1) (by dsimp only; omega)).trans K1x)
  have K22 : Hid ((w2.setCell ⟨w.heap.size + 1 + 1, 3, none⟩ (.slice x2 r.marks.length y2)).heap[w.heap.size + 1 + 1]? = some (.cells #[.int .i64 r.status, .int .i64 r.now, .slice x1 r.vars.length y1, .slice x2 r.marks.length y2, .slice none 0 0] 56)) := hid (by have := blk_set (i := 3) K2x (.slice x2 r.marks.length y2); simpa using this)
  have KB2 : Hid (Below w.heap.size w (w2.setCell ⟨w.heap.size + 1 + 1, 3, none⟩ (.slice x2 r.marks.length y2))) := hid (KBx.setCell (by dsimp only; omega) _)
  have HX22 : Hid (NO (w2.setCell ⟨w.heap.size + 1 + 1, 3, none⟩ (.slice x2 r.marks.length y2)) (w.heap.size + 1 + 1 + 1) (.slice x2 r.marks.length y2) r.marks) := hid ((hu.setBelow (b := w.heap.size + 1 + 1) (o := 3) (by omega) _).mono (by omega))
  have HX12 : Hid (NO (w2.setCell ⟨w.heap.size + 1 + 1, 3, none⟩ (.slice x2 r.marks.length y2)) (w.heap.size + 1 + 1 + 1) (.slice x1 r.vars.length y1) r.vars) := hid ((HX11.out.below hb).setBelow (b := w.heap.size + 1 + 1) (o := 3) (by omega) _)
  have b1 : (w2.setCell ⟨w.heap.size + 1 + 1, 3, none⟩ (.slice x2 r.marks.length y2)).cell? ⟨w.heap.size, 4, none⟩ = some (.slice a3 r.dues.length k3) := by rw [blk_cell K02.out]; rfl
  have b2 := blk_lt K02.out
  clear hu hb KBx K0x K1x K2x G0 z0 KB1 K01 K11 K21 HX11 b1p b2p
  go_wp2_with fail
  generalize w2.setCell ⟨w.heap.size + 1 + 1, 3, none⟩ (.slice x2 r.marks.length y2) = wA2 at *
  clear g1 g2 z1
  have b1p := b1
  have b2p := b2
  clear b1 b2
  refine (NO.toS B r.dues _ wA2 (by have := HL.out.dues; omega) (HA.out.below KB2.out).dues).mono ?_
  rintro e w3 ⟨u3, rfl, hu, hb⟩
  obtain ⟨x3, y3, rfl⟩ := hu.slice
  have KBx := KB2.out.trans (hb.mono KB2.out.size)
  have z0 := blk_lt K22.out
  have K0x := (hb.block _ (blk_lt K02.out)).trans K02.out
  have K1x := (hb.block _ (blk_lt K12.out)).trans K12.out
  have K2x := (hb.block _ (blk_lt K22.out)).trans K22.out
  have G0 := hid (blk_cell K2x 4)
  have g2 := blk_free K2x 4
  have z1 := blk_lt K2x
  have g1 : w3.cell? ⟨w.heap.size + 1 + 1, 4, none⟩ = some (.slice none 0 0) := by rw [G0.out]; rfl
  have K03 := hid ((Below.heap_setCell w3 ⟨w.heap.size + 1 + 1, 4, none⟩ (.slice x3 r.dues.length y3) w.heap.size (by dsimp only; omega)).trans K0x)
  have K13 := hid ((Below.heap_setCell w3 ⟨w.heap.size + 1 + 1, 4, none⟩ (.slice x3 r.dues.length y3) (w.heap.size + 1) (by dsimp only; omega)).trans K1x)
  have K23 : Hid ((w3.setCell ⟨w.heap.size + 1 + 1, 4, none⟩ (.slice x3 r.dues.length y3)).heap[w.heap.size + 1 + 1]? = some (.cells #[.int .i64 r.status, .int .i64 r.now, .slice x1 r.vars.length y1, .slice x2 r.marks.length y2, .slice x3 r.dues.length y3] 56)) := hid (by have := blk_set (i := 4) K2x (.slice x3 r.dues.length y3); simpa using this)
  have KB3 : Hid (Below w.heap.size w (w3.setCell ⟨w.heap.size + 1 + 1, 4, none⟩ (.slice x3 r.dues.length y3))) := hid (KBx.setCell (by dsimp only; omega) _)
  have HX33 : Hid (NO (w3.setCell ⟨w.heap.size + 1 + 1, 4, none⟩ (.slice x3 r.dues.length y3)) (w.heap.size + 1 + 1 + 1) (.slice x3 r.dues.length y3) r.dues) := hid ((hu.setBelow (b := w.heap.size + 1 + 1) (o := 4) (by omega) _).mono (by omega))
  have HX13 : Hid (NO (w3.setCell ⟨w.heap.size + 1 + 1, 4, none⟩ (.slice x3 r.dues.length y3)) (w.heap.size + 1 + 1 + 1) (.slice x1 r.vars.length y1) r.vars) := hid ((HX12.out.below hb).setBelow (b := w.heap.size + 1 + 1) (o := 4) (by omega) _)
  have HX23 : Hid (NO (w3.setCell ⟨w.heap.size + 1 + 1, 4, none⟩ (.slice x3 r.dues.length y3)) (w.heap.size + 1 + 1 + 1) (.slice x2 r.marks.length y2) r.marks) := hid ((HX22.out.below hb).setBelow (b := w.heap.size + 1 + 1) (o := 4) (by omega) _)
  clear hu hb KBx K0x K1x K2x G0 z0 KB2 K02 K12 K22 HX12 HX22 b1p b2p
  go_upto_region 7 with fail
  generalize w3.setCell ⟨w.heap.size + 1 + 1, 4, none⟩ (.slice x3 r.dues.length y3) = wA3 at *
  clear g1 g2 z1
  have c0 := (blk_cell K23.out 0)
  have c1 := (blk_cell K23.out 1)
  have c2 := (blk_cell K23.out 2)
  have c3 := (blk_cell K23.out 3)
  have c4 := (blk_cell K23.out 4)
  have d0 := (blk_cell K13.out 0)
  have d1 := (blk_cell K13.out 1)
  have d2 := (blk_cell K13.out 2)
  have d3 := (blk_cell K13.out 3)
  have d4 := (blk_cell K13.out 4)
  have f0 := (blk_free K13.out 0)
  have f1 := (blk_free K13.out 1)
  have f2 := (blk_free K13.out 2)
  have f3 := (blk_free K13.out 3)
  have f4 := (blk_free K13.out 4)
  simp at c0 c1 c2 c3 c4 d0 d1 d2 d3 d4
  have z0 := blk_lt K23.out
  have z1 := blk_lt K13.out
  go_wp2
  refine bodyPost_ret (results_cell_row Try.results44 _ _ (w.heap.size + 1) 56 #[.int .i64 r.status, .int .i64 r.now, .slice x1 r.vars.length y1, .slice x2 r.marks.length y2, .slice x3 r.dues.length y3] (0, 0) _ rfl (set5 K13.out _ _ _ _ _) Try.underlying56 rfl info5) rfl ⟨_, _, _, rfl, ⟨?_, ?_, ?_⟩, ?_⟩
  · exact (no5 HX13.out (by omega) _ _ _ _ _).mono (by omega)
  · exact (no5 HX23.out (by omega) _ _ _ _ _).mono (by omega)
  · exact (no5 HX33.out (by omega) _ _ _ _ _).mono (by omega)
  · exact below5 KB3.out (by omega) _ _ _ _ _
/-- A whole row between two blocks. -/
def OwnC (w : World) (B C : Nat) (v : Value) (m : Nat) : Prop := ∃ g f, v = .slice (some ⟨g, 0, none⟩) m m ∧ B ≤ g ∧ g < C ∧ w.rowIs g 2 (m * 1) f
theorem OwnC.below {w w' : World} {B C : Nat} {v : Value} {m : Nat} (h : OwnC w B C v m) (hb : Below w.heap.size w w') : OwnC w' B C v m := by
  obtain ⟨g, f, rfl, h1, h1', h2⟩ := h
  exact ⟨g, f, rfl, h1, h1', h2.of_block (hb.block g h2.lt)⟩
theorem OwnC.amid {w w' : World} {B C E F : Nat} {v : Value} {m : Nat} (h : OwnC w B C v m) (ha : Amid w w' E F) (hd : F ≤ B) : OwnC w' B C v m := by
  obtain ⟨g, f, rfl, h1, h1', h2⟩ := h
  exact ⟨g, f, rfl, h1, h1', h2.of_block (ha.block g h2.lt (.inr (by omega)))⟩
theorem OwnL.upto {w : World} {B : Nat} {v : Value} {m : Nat} (h : OwnL w B v m) : OwnC w B w.heap.size v m := by
  obtain ⟨g, f, rfl, h1, h2⟩ := h
  exact ⟨g, f, rfl, h1, h2.lt, h2⟩
/-- The three rows alone, whatever they hold. -/
structure Rows3 (w : World) (B C : Nat) (v1 v2 v3 : Value) (r : RunD) : Prop where
  vars : OwnC w B C v1 r.vars.length
  marks : OwnC w B C v2 r.marks.length
  dues : OwnC w B C v3 r.dues.length
theorem AtO.rows {w : World} {B : Nat} {v1 v2 v3 : Value} {r : RunD} (h : AtO w B v1 v2 v3 r) : Rows3 w B w.heap.size v1 v2 v3 r := ⟨h.vars.own.upto, h.marks.own.upto, h.dues.own.upto⟩
theorem Rows3.below {w w' : World} {B C : Nat} {v1 v2 v3 : Value} {r : RunD} (h : Rows3 w B C v1 v2 v3 r) (hb : Below w.heap.size w w') : Rows3 w' B C v1 v2 v3 r := ⟨h.vars.below hb, h.marks.below hb, h.dues.below hb⟩
theorem Rows3.amid {w w' : World} {B C E F : Nat} {v1 v2 v3 : Value} {r : RunD} (h : Rows3 w B C v1 v2 v3 r) (ha : Amid w w' E F) (hd : F ≤ B) : Rows3 w' B C v1 v2 v3 r := ⟨h.vars.amid ha hd, h.marks.amid ha hd, h.dues.amid ha hd⟩
end Ch
end Go.Proofs.Ytpninlangjfcfaa
