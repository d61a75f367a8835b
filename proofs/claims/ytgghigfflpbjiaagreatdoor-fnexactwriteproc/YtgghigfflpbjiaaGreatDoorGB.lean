/- Laid together: StB, StC. -/
import Derived.Test.YtgghigfflpbjiaaGreatDoorGA
/- The law's copies of steps. -/
namespace Go.Proofs.YtgghigfflpbjiaaGreatDoor
open Go.RowKit Go.Deep
set_option linter.unusedVariables false
namespace St
open Ex (hid)
open Nd (NodeD)
theorem old_cell {B : Nat} {W w : World} (h : Below B W w) {b o : Nat} (hb : b < B) {v : Value} (hc : W.cell? ⟨b, o, none⟩ = some v) : w.cell? ⟨b, o, none⟩ = some v := (h.cell (p := ⟨b, o, none⟩) hb).trans hc
theorem old_free {B : Nat} {W w : World} (h : Below B W w) {b o : Nat} (hb : b < B) (hc : W.frozen? ⟨b, o, none⟩ = false) : w.frozen? ⟨b, o, none⟩ = false := (h.frozen (p := ⟨b, o, none⟩) hb).trans hc
theorem setB {B : Nat} {W w : World} (h : Below B W w) {b o : Nat} (hb : B ≤ b) (x : Value) : Below B W (w.setCell ⟨b, o, none⟩ x) := h.setCell hb x
theorem ownKept {w w' : World} {B C m : Nat} {v : Value} (h : Nd.Own w B C v m) (hb : ∀ g, B ≤ g → g < C → g < w.heap.size → w'.heap[g]? = w.heap[g]?) : Nd.Own w' B C v m := by
  obtain ⟨g, f, rfl, h1, h2, h3⟩ := h
  exact ⟨g, f, rfl, h1, h2, h3.of_block (hb g h1 h2 h3.lt)⟩
theorem ownBelow {w w' : World} {B C m : Nat} {v : Value} (h : Nd.Own w B C v m) (hb : Below w.heap.size w w') : Nd.Own w' B C v m := ownKept h (fun g _ _ hg => hb.block g hg)
theorem ownMono {w : World} {B B' C C' m : Nat} {v : Value} (h : Nd.Own w B C v m) (hB : B' ≤ B) (hC : C ≤ C') : Nd.Own w B' C' v m := by
  obtain ⟨g, f, rfl, h1, h2, h3⟩ := h
  exact ⟨g, f, rfl, Nat.le_trans hB h1, Nat.lt_of_lt_of_le h2 hC, h3⟩
theorem ownSet {w : World} {B C m b o : Nat} {v : Value} (h : Nd.Own w B C v m) (hb : b < B) (x : Value) : Nd.Own (w.setCell ⟨b, o, none⟩ x) B C v m :=
  ownKept h (fun g hg _ _ => Below.heap_setCell _ _ _ _ (by dsimp only; omega))
theorem infoStep : (Tryz.prog.info? 49).map (fun i => (i.zero, i.size, i.bytes)) = some (some (Value.agg #[.int .i64 0, .int .i64 0, .string { data := #[] }, .int .i64 0, .slice none 0 0, .slice none 0 0]), 6, 88) := by kernel_rfl
set_option maxRecDepth 100000 in
set_option maxHeartbeats 2000000 in
theorem toOne (B : Nat) (x : StepD) (vc ve : Value) (w : World) (hl : x.cond.length ≤ 1048576) (hl2 : x.expr.length ≤ 1048576) (hc : Nd.At w B vc x.cond) (he : Nd.At w B ve x.expr) :
    Calls Tryz.prog 21 #[.agg #[.int .i64 x.kind, .int .i64 x.parent, .string x.name, .int .i64 x.arg, vc, ve]] w fun e w' => ∃ uc ue, e = .returned (.agg #[.int .i64 x.kind, .int .i64 x.parent, .string x.name, .int .i64 x.arg, uc, ue]) ∧ Nd.At w' w.heap.size uc x.cond ∧ Nd.At w' w.heap.size ue x.expr ∧
      Nd.Own w' w.heap.size w'.heap.size uc x.cond.length ∧ Nd.Own w' w.heap.size w'.heap.size ue x.expr.length ∧ Below w.heap.size w w' := by
  obtain ⟨a, cap, rfl⟩ := hc.slice
  obtain ⟨a2, cap2, rfl⟩ := he.slice
  have HC := hid hc
  have HE := hid he
  clear hc he
  go_enter Tryz.func21, Tryz.ntmps21
  go_wp2_with fail
  refine (Nd.toS2 B x.cond _ _ hl (HC.out.below ?hB)).mono ?_
  case hB => exact (((Below.refl _ w).alloc (Nat.le_refl _) _).alloc (by simp) _).alloc (by simp; omega) _
  rintro e w1 ⟨uc, rfl, hu, hown, hb1⟩
  obtain ⟨a3, cap3, rfl⟩ := hu.slice
  simp only [World.size_alloc] at hb1 hu hown
  have HU := hid hu
  have HOW := hid hown
  clear hu hown
  have hz : w.heap.size + 1 + 1 + 1 ≤ w1.heap.size := by have := hb1.size; simpa using this
  have l0 : w.heap.size < w1.heap.size := by omega
  have l1 : w.heap.size + 1 < w1.heap.size := by omega
  have l2 : w.heap.size + 1 + 1 < w1.heap.size := by omega
  have p5 := old_cell hb1 (b := w.heap.size) (o := 5) (v := .slice a2 x.expr.length cap2) (by omega) (by go_simp)
  have c0 := old_cell hb1 (b := w.heap.size + 1 + 1) (o := 0) (v := .int .i64 x.kind) (by omega) (by go_simp)
  have c1 := old_cell hb1 (b := w.heap.size + 1 + 1) (o := 1) (v := .int .i64 x.parent) (by omega) (by go_simp)
  have c2 := old_cell hb1 (b := w.heap.size + 1 + 1) (o := 2) (v := .string x.name) (by omega) (by go_simp)
  have c3 := old_cell hb1 (b := w.heap.size + 1 + 1) (o := 3) (v := .int .i64 x.arg) (by omega) (by go_simp)
  have c4 := old_cell hb1 (b := w.heap.size + 1 + 1) (o := 4) (v := .slice none 0 0) (by omega) (by go_simp)
  have c5 := old_cell hb1 (b := w.heap.size + 1 + 1) (o := 5) (v := .slice none 0 0) (by omega) (by go_simp)
  have d0 := old_cell hb1 (b := w.heap.size + 1) (o := 0) (v := .int .i64 0) (by omega) (by go_simp)
  have d1 := old_cell hb1 (b := w.heap.size + 1) (o := 1) (v := .int .i64 0) (by omega) (by go_simp)
  have d2 := old_cell hb1 (b := w.heap.size + 1) (o := 2) (v := .string { data := #[] }) (by omega) (by go_simp)
  have d3 := old_cell hb1 (b := w.heap.size + 1) (o := 3) (v := .int .i64 0) (by omega) (by go_simp)
  have d4 := old_cell hb1 (b := w.heap.size + 1) (o := 4) (v := .slice none 0 0) (by omega) (by go_simp)
  have d5 := old_cell hb1 (b := w.heap.size + 1) (o := 5) (v := .slice none 0 0) (by omega) (by go_simp)
  have f4 := old_free hb1 (b := w.heap.size + 1 + 1) (o := 4) (by omega) (by go_simp)
  have f5 := old_free hb1 (b := w.heap.size + 1 + 1) (o := 5) (by omega) (by go_simp)
  have e0 := old_free hb1 (b := w.heap.size + 1) (o := 0) (by omega) (by go_simp)
  have e1 := old_free hb1 (b := w.heap.size + 1) (o := 1) (by omega) (by go_simp)
  have e2 := old_free hb1 (b := w.heap.size + 1) (o := 2) (by omega) (by go_simp)
  have e3 := old_free hb1 (b := w.heap.size + 1) (o := 3) (by omega) (by go_simp)
  have e4 := old_free hb1 (b := w.heap.size + 1) (o := 4) (by omega) (by go_simp)
  have e5 := old_free hb1 (b := w.heap.size + 1) (o := 5) (by omega) (by go_simp)
  have hB0 : Below w.heap.size w w1 := ((((Below.refl _ w).alloc (Nat.le_refl _) _).alloc (by simp) _).alloc (by simp; omega) _).trans (hb1.mono (by omega))
  have HB0 := hid hB0
  have hB1 : Below w.heap.size w (w1.setCell ⟨w.heap.size + 1 + 1, 4, none⟩ (.slice a3 x.cond.length cap3)) := setB hB0 (by omega) _
  have HE1 := hid (HE.out.below hB1)
  have HB1 := hid hB1
  have HU1 := hid (HU.out.setBelow (b := w.heap.size + 1 + 1) (o := 4) (by omega) (.slice a3 x.cond.length cap3))
  have HOW1 := hid (ownSet (b := w.heap.size + 1 + 1) (o := 4) HOW.out (by omega) (.slice a3 x.cond.length cap3))
  have hs1 : (w1.setCell ⟨w.heap.size + 1 + 1, 4, none⟩ (.slice a3 x.cond.length cap3)).heap.size = w1.heap.size := by simp [World.setCell]
  have k0 : (w1.setCell ⟨w.heap.size + 1 + 1, 4, none⟩ (.slice a3 x.cond.length cap3)).cell? ⟨w.heap.size + 1 + 1, 0, none⟩ = some (.int .i64 x.kind) := by go_simp
  have k1 : (w1.setCell ⟨w.heap.size + 1 + 1, 4, none⟩ (.slice a3 x.cond.length cap3)).cell? ⟨w.heap.size + 1 + 1, 1, none⟩ = some (.int .i64 x.parent) := by go_simp
  have k2 : (w1.setCell ⟨w.heap.size + 1 + 1, 4, none⟩ (.slice a3 x.cond.length cap3)).cell? ⟨w.heap.size + 1 + 1, 2, none⟩ = some (.string x.name) := by go_simp
  have k3 : (w1.setCell ⟨w.heap.size + 1 + 1, 4, none⟩ (.slice a3 x.cond.length cap3)).cell? ⟨w.heap.size + 1 + 1, 3, none⟩ = some (.int .i64 x.arg) := by go_simp
  have k4 : (w1.setCell ⟨w.heap.size + 1 + 1, 4, none⟩ (.slice a3 x.cond.length cap3)).cell? ⟨w.heap.size + 1 + 1, 4, none⟩ = some (.slice a3 x.cond.length cap3) := by go_simp
  have k5 : (w1.setCell ⟨w.heap.size + 1 + 1, 4, none⟩ (.slice a3 x.cond.length cap3)).cell? ⟨w.heap.size + 1 + 1, 5, none⟩ = some (.slice none 0 0) := by go_simp
  have m0 : (w1.setCell ⟨w.heap.size + 1 + 1, 4, none⟩ (.slice a3 x.cond.length cap3)).cell? ⟨w.heap.size + 1, 0, none⟩ = some (.int .i64 0) := by go_simp
  have m1 : (w1.setCell ⟨w.heap.size + 1 + 1, 4, none⟩ (.slice a3 x.cond.length cap3)).cell? ⟨w.heap.size + 1, 1, none⟩ = some (.int .i64 0) := by go_simp
  have m2 : (w1.setCell ⟨w.heap.size + 1 + 1, 4, none⟩ (.slice a3 x.cond.length cap3)).cell? ⟨w.heap.size + 1, 2, none⟩ = some (.string { data := #[] }) := by go_simp
  have m3 : (w1.setCell ⟨w.heap.size + 1 + 1, 4, none⟩ (.slice a3 x.cond.length cap3)).cell? ⟨w.heap.size + 1, 3, none⟩ = some (.int .i64 0) := by go_simp
  have m4 : (w1.setCell ⟨w.heap.size + 1 + 1, 4, none⟩ (.slice a3 x.cond.length cap3)).cell? ⟨w.heap.size + 1, 4, none⟩ = some (.slice none 0 0) := by go_simp
  have m5 : (w1.setCell ⟨w.heap.size + 1 + 1, 4, none⟩ (.slice a3 x.cond.length cap3)).cell? ⟨w.heap.size + 1, 5, none⟩ = some (.slice none 0 0) := by go_simp
  have n5 : (w1.setCell ⟨w.heap.size + 1 + 1, 4, none⟩ (.slice a3 x.cond.length cap3)).frozen? ⟨w.heap.size + 1 + 1, 5, none⟩ = false := by go_simp
  have n0 : ∀ o, o < 6 → (w1.setCell ⟨w.heap.size + 1 + 1, 4, none⟩ (.slice a3 x.cond.length cap3)).frozen? ⟨w.heap.size + 1, o, none⟩ = false := fun o ho => by
    have : w1.frozen? ⟨w.heap.size + 1, o, none⟩ = false := by
      rcases (by omega : o = 0 ∨ o = 1 ∨ o = 2 ∨ o = 3 ∨ o = 4 ∨ o = 5) with rfl | rfl | rfl | rfl | rfl | rfl <;> assumption
    go_simp
  go_wp2_with fail
  clear hB0 hB1 HC HE hb1 HU HOW c0 c1 c2 c3 c4 c5 d0 d1 d2 d3 d4 d5 e0 e1 e2 e3 e4 e5 f4 f5 p5
  generalize w1.setCell ⟨w.heap.size + 1 + 1, 4, none⟩ (.slice a3 x.cond.length cap3) = W1 at *
  refine (Nd.toS2 B x.expr _ _ hl2 HE1.out).mono ?_
  rintro e w2 ⟨ue, rfl, hu2, hown2, hb2⟩
  obtain ⟨a4, cap4, rfl⟩ := hu2.slice
  have hs2 := hb2.size
  have j0 : w.heap.size + 1 < w2.heap.size := by omega
  have j1 : w.heap.size + 1 + 1 < w2.heap.size := by omega
  have c0 := old_cell hb2 (by omega) k0
  have c1 := old_cell hb2 (by omega) k1
  have c2 := old_cell hb2 (by omega) k2
  have c3 := old_cell hb2 (by omega) k3
  have c4 := old_cell hb2 (by omega) k4
  have c5 := old_cell hb2 (by omega) k5
  have d0 := old_cell hb2 (by omega) m0
  have d1 := old_cell hb2 (by omega) m1
  have d2 := old_cell hb2 (by omega) m2
  have d3 := old_cell hb2 (by omega) m3
  have d4 := old_cell hb2 (by omega) m4
  have d5 := old_cell hb2 (by omega) m5
  have f5 := old_free hb2 (by omega) n5
  have e0 := old_free hb2 (by omega) (n0 0 (by omega))
  have e1 := old_free hb2 (by omega) (n0 1 (by omega))
  have e2 := old_free hb2 (by omega) (n0 2 (by omega))
  have e3 := old_free hb2 (by omega) (n0 3 (by omega))
  have e4 := old_free hb2 (by omega) (n0 4 (by omega))
  have e5 := old_free hb2 (by omega) (n0 5 (by omega))
  have HU2 := hid hu2
  have HOW2 := hid hown2
  have HUx := hid (HU1.out.below hb2)
  have HOWx := hid (ownBelow HOW1.out hb2)
  have HB2 := hid (HB1.out.trans (hb2.mono HB1.out.size))
  clear k0 k1 k2 k3 k4 k5 m0 m1 m2 m3 m4 m5 n0 n5 hu2 hown2 hb2 HU1 HOW1 HB1
  go_wp2
  refine bodyPost_ret (v := .agg #[.int .i64 x.kind, .int .i64 x.parent, .string x.name, .int .i64 x.arg, .slice a3 x.cond.length cap3, .slice a4 x.expr.length cap4]) (by simp [results, Tryz.results21, go_sem, d0, d1, d2, d3, d4, d5]) rfl ⟨_, _, rfl, ?_, ?_, ?_, ?_, ?_⟩
  · exact (((((((HUx.out.setBelow (by omega) _).setBelow (by omega) _).setBelow (by omega) _).setBelow (by omega) _).setBelow (by omega) _).setBelow (by omega) _).setBelow (by omega) _).mono (by omega)
  · exact (((((((HU2.out.setBelow (by omega) _).setBelow (by omega) _).setBelow (by omega) _).setBelow (by omega) _).setBelow (by omega) _).setBelow (by omega) _).setBelow (by omega) _).mono (by omega)
  · exact ownMono (ownSet (ownSet (ownSet (ownSet (ownSet (ownSet (ownSet HOWx.out (by omega) _) (by omega) _) (by omega) _) (by omega) _) (by omega) _) (by omega) _) (by omega) _) (by omega) (by simp [World.setCell]; omega)
  · exact ownMono (ownSet (ownSet (ownSet (ownSet (ownSet (ownSet (ownSet HOW2.out (by omega) _) (by omega) _) (by omega) _) (by omega) _) (by omega) _) (by omega) _) (by omega) _) (by omega) (by simp [World.setCell])
  · exact setB (setB (setB (setB (setB (setB (setB HB2.out (by omega) _) (by omega) _) (by omega) _) (by omega) _) (by omega) _) (by omega) _) (by omega) _
/-- A row of steps that may be written into, with its nodes, between two blocks. -/
def Own (w : World) (B C : Nat) (v : Value) (n : Nat) (mc me : Nat → Nat) : Prop := ∃ g f, v = .slice (some ⟨g, 0, none⟩) n n ∧ B ≤ g ∧ g < C ∧ w.rowIs g 49 (n * 6) f ∧ ∀ j, j < n → Nd.Own w (g + 1) C (f (j * 6 + 4)) (mc j) ∧ Nd.Own w (g + 1) C (f (j * 6 + 5)) (me j)
def lenC (ss : List StepD) (j : Nat) : Nat := match ss[j]? with
  | some e => e.cond.length
  | none => 0
def lenE (ss : List StepD) (j : Nat) : Nat := match ss[j]? with
  | some e => e.expr.length
  | none => 0
theorem lenC_eq {ss : List StepD} {j : Nat} (h : j < ss.length) : lenC ss j = ss[j].cond.length := by unfold lenC; rw [List.getElem?_eq_getElem h]
theorem lenE_eq {ss : List StepD} {j : Nat} (h : j < ss.length) : lenE ss j = ss[j].expr.length := by unfold lenE; rw [List.getElem?_eq_getElem h]
theorem Own.kept {w w' : World} {B C n : Nat} {v : Value} {mc me : Nat → Nat} (h : Own w B C v n mc me) (hb : ∀ g, B ≤ g → g < C → g < w.heap.size → w'.heap[g]? = w.heap[g]?) : Own w' B C v n mc me := by
  obtain ⟨g, f, rfl, h1, h2, h3, h4⟩ := h
  exact ⟨g, f, rfl, h1, h2, h3.of_block (hb g h1 h2 h3.lt), fun j hj => ⟨ownKept (h4 j hj).1 (fun b hb1 hb2 hb3 => hb b (by omega) hb2 hb3), ownKept (h4 j hj).2 (fun b hb1 hb2 hb3 => hb b (by omega) hb2 hb3)⟩⟩
theorem Own.below {w w' : World} {B C n : Nat} {v : Value} {mc me : Nat → Nat} (h : Own w B C v n mc me) (hb : Below w.heap.size w w') : Own w' B C v n mc me := h.kept (fun g _ _ hg => hb.block g hg)
def cellsOk (w : World) (B : Nat) (f : Nat → Value) (j : Nat) (s : StepD) : Prop := f (j * 6) = .int .i64 s.kind ∧ f (j * 6 + 1) = .int .i64 s.parent ∧ f (j * 6 + 2) = .string s.name ∧ f (j * 6 + 3) = .int .i64 s.arg ∧ Nd.At w B (f (j * 6 + 4)) s.cond ∧ Nd.At w B (f (j * 6 + 5)) s.expr
theorem row_steps {w : World} {g : Nat} {t : TypeId} {f : Nat → Value} {ss : List StepD} (h : w.rowIs g t (ss.length * 6) f)
    (hf : ∀ j (hj : j < ss.length), cellsOk w (g + 1) f j ss[j]) (cap : Nat) (hc : ss.length ≤ cap) (hm : cap ≤ maxLen) : At w g (.slice (some ⟨g, 0, none⟩) ss.length cap) ss := by
  refine ⟨_, _, rfl, hc, hm, .inr ⟨g, 0, rfl, Nat.le_refl _, h.lt, fun i hi => ?_⟩⟩
  obtain ⟨h0, h1, h2, h3, h4, h5⟩ := hf i hi
  rw [Nat.zero_add, ← h0, ← h1, ← h2, ← h3]
  exact ⟨h.cell (by omega), h.cell (by omega), h.cell (by omega), h.cell (by omega), _, _, h.cell (by omega), h.cell (by omega), h4.mono (by omega), h5.mono (by omega)⟩
def put6 (w : World) (g k : Nat) (s : StepD) (vc ve : Value) : World := (((((w.setCell ⟨g, k * 6, none⟩ (.int .i64 s.kind)).setCell ⟨g, k * 6 + 1, none⟩ (.int .i64 s.parent)).setCell ⟨g, k * 6 + 2, none⟩ (.string s.name)).setCell ⟨g, k * 6 + 3, none⟩ (.int .i64 s.arg)).setCell ⟨g, k * 6 + 4, none⟩ vc).setCell ⟨g, k * 6 + 5, none⟩ ve
theorem set6 {w : World} {g : Nat} {t : TypeId} {n k : Nat} {f : Nat → Value} {vc ve : Value} {s : StepD} (h : w.rowIs g t n f) :
    (put6 w g k s vc ve).rowIs g t n (fun i => if i = k * 6 + 5 then ve else if i = k * 6 + 4 then vc else if i = k * 6 + 3 then .int .i64 s.arg else if i = k * 6 + 2 then .string s.name else if i = k * 6 + 1 then .int .i64 s.parent else if i = k * 6 then .int .i64 s.kind else f i) :=
  (((((h.set (k * 6) _).set (k * 6 + 1) _).set (k * 6 + 2) _).set (k * 6 + 3) _).set (k * 6 + 4) _).set (k * 6 + 5) _
theorem at_put6 {w : World} {B g k : Nat} {s : StepD} {vc ve v : Value} {ns : List NodeD} (h : Nd.At w B v ns) (hg : g < B) : Nd.At (put6 w g k s vc ve) B v ns :=
  (((((h.setBelow hg _).setBelow hg _).setBelow hg _).setBelow hg _).setBelow hg _).setBelow hg _
theorem own_put6 {w : World} {B C g k m : Nat} {s : StepD} {vc ve v : Value} (h : Nd.Own w B C v m) (hg : g < B) : Nd.Own (put6 w g k s vc ve) B C v m :=
  ownSet (ownSet (ownSet (ownSet (ownSet (ownSet h hg _) hg _) hg _) hg _) hg _) hg _
theorem below_put6 {w W : World} {B g k : Nat} {s : StepD} {vc ve : Value} (h : Below B W w) (hg : B ≤ g) : Below B W (put6 w g k s vc ve) :=
  setB (setB (setB (setB (setB (setB h hg _) hg _) hg _) hg _) hg _) hg _
theorem size_put6 {w : World} {g k : Nat} {s : StepD} {vc ve : Value} : (put6 w g k s vc ve).heap.size = w.heap.size := by simp [put6, World.setCell]
theorem f6_old {k j : Nat} {f : Nat → Value} {vc ve : Value} {s : StepD} {c : Nat} (hj : j ≠ k) (hc : c < 6) :
    (fun i => if i = k * 6 + 5 then ve else if i = k * 6 + 4 then vc else if i = k * 6 + 3 then .int .i64 s.arg else if i = k * 6 + 2 then .string s.name else if i = k * 6 + 1 then .int .i64 s.parent else if i = k * 6 then .int .i64 s.kind else f i) (j * 6 + c) = f (j * 6 + c) := by
  have h0 : ¬ j * 6 + c = k * 6 := by omega
  have h1 : ¬ j * 6 + c = k * 6 + 1 := by omega
  have h2 : ¬ j * 6 + c = k * 6 + 2 := by omega
  have h3 : ¬ j * 6 + c = k * 6 + 3 := by omega
  have h4 : ¬ j * 6 + c = k * 6 + 4 := by omega
  have h5 : ¬ j * 6 + c = k * 6 + 5 := by omega
  simp only [h0, h1, h2, h3, h4, h5, if_false]
theorem step6 {w : World} {g : Nat} {t : TypeId} {k C : Nat} {f : Nat → Value} {vc ve : Value} {ss : List StepD} (h : w.rowIs g t (ss.length * 6) f) (hk : k < ss.length)
    (hf : ∀ j (hj : j < ss.length), j < k → cellsOk w (g + 1) f j ss[j]) (hw : ∀ j (hj : j < ss.length), j < k → Nd.Own w (g + 1) C (f (j * 6 + 4)) ss[j].cond.length ∧ Nd.Own w (g + 1) C (f (j * 6 + 5)) ss[j].expr.length)
    (hc : Nd.At w (g + 1) vc ss[k].cond) (he : Nd.At w (g + 1) ve ss[k].expr) (oc : Nd.Own w (g + 1) C vc ss[k].cond.length) (oe : Nd.Own w (g + 1) C ve ss[k].expr.length) :
    ∃ f', (put6 w g k ss[k] vc ve).rowIs g t (ss.length * 6) f' ∧ (∀ j (hj : j < ss.length), j < k + 1 → cellsOk (put6 w g k ss[k] vc ve) (g + 1) f' j ss[j]) ∧
      (∀ j (hj : j < ss.length), j < k + 1 → Nd.Own (put6 w g k ss[k] vc ve) (g + 1) C (f' (j * 6 + 4)) ss[j].cond.length ∧ Nd.Own (put6 w g k ss[k] vc ve) (g + 1) C (f' (j * 6 + 5)) ss[j].expr.length) := by
  refine ⟨_, set6 (k := k) (vc := vc) (ve := ve) (s := ss[k]) h, fun j hj hjk => ?_, fun j hj hjk => ?_⟩
  · by_cases e : j = k
    · subst e
      exact ⟨by simp, by simp, by simp, by simp, by simpa using at_put6 hc (by omega), by simpa using at_put6 he (by omega)⟩
    · obtain ⟨q0, q1, q2, q3, q4, q5⟩ := hf j hj (by omega)
      exact ⟨(f6_old (c := 0) e (by omega)).trans q0, (f6_old (c := 1) e (by omega)).trans q1, (f6_old (c := 2) e (by omega)).trans q2, (f6_old (c := 3) e (by omega)).trans q3, by rw [f6_old (c := 4) e (by omega)]; exact at_put6 q4 (by omega), by rw [f6_old (c := 5) e (by omega)]; exact at_put6 q5 (by omega)⟩
  · by_cases e : j = k
    · subst e
      exact ⟨by simpa using own_put6 oc (by omega), by simpa using own_put6 oe (by omega)⟩
    · obtain ⟨q4, q5⟩ := hw j hj (by omega)
      refine ⟨?_, ?_⟩
      · have h := own_put6 (k := k) (s := ss[k]) (vc := vc) (ve := ve) q4 (show g < g + 1 by omega)
        rw [← f6_old (k := k) (s := ss[k]) (vc := vc) (ve := ve) (f := f) (c := 4) e (by omega)] at h
        exact h
      · have h := own_put6 (k := k) (s := ss[k]) (vc := vc) (ve := ve) q5 (show g < g + 1 by omega)
        rw [← f6_old (k := k) (s := ss[k]) (vc := vc) (ve := ve) (f := f) (c := 5) e (by omega)] at h
        exact h
set_option maxRecDepth 100000 in
set_option maxHeartbeats 2000000 in
theorem toS2 (B : Nat) (ss : List StepD) (v : Value) (w : World) (hl : Small 1048576 ss) (ha : At w B v ss) :
    Calls Tryz.prog 7 #[v] w fun e w' => ∃ v', e = .returned v' ∧ At w' w.heap.size v' ss ∧ Own w' w.heap.size w'.heap.size v' ss.length (lenC ss) (lenE ss) ∧ Below w.heap.size w w' := by
  obtain ⟨a, cap, rfl⟩ := ha.slice
  have HA := hid ha
  have HL := hid hl
  have hlen := hl.1
  clear ha hl
  have hmk := Nd.make_row (P := Tryz.prog) Tryz.underlying28 infoStep ss.length (by omega) (by omega)
  go_enter Tryz.func7, Tryz.ntmps7
  go_wp2
  go_loopw [4] (fun i wr => ∃ (k : Nat) (f : Nat → Value), i = .int .i64 k ∧ k ≤ ss.length ∧ Hid (wr.rowIs w.heap.size 49 (ss.length * 6) f) ∧ Hid (∀ j (hj : j < ss.length), j < k → cellsOk wr (w.heap.size + 1) f j ss[j]) ∧ Hid (∀ j (hj : j < ss.length), j < k → Nd.Own wr (w.heap.size + 1) wr.heap.size (f (j * 6 + 4)) ss[j].cond.length ∧ Nd.Own wr (w.heap.size + 1) wr.heap.size (f (j * 6 + 5)) ss[j].expr.length) ∧ Below w.heap.size w wr) (fun i _ => ss.length - (intOf i).toNat)
  case atStart =>
    obtain ⟨f, hf⟩ := Nd.made_row w (Value.agg #[.int .i64 0, .int .i64 0, .string { data := #[] }, .int .i64 0, .slice none 0 0, .slice none 0 0]).cells (ss.length * 6) 49
    exact ⟨0, f, rfl, Nat.zero_le _, hf, fun j _ h => by omega, fun j _ h => by omega, (Below.refl _ _).alloc (Nat.le_refl _) _⟩
  case round =>
    obtain ⟨k, f, rfl, hkl, HR, HF, HW, hbel⟩ := hrel
    by_cases hlt : k < ss.length
    · obtain ⟨g, o, vc, ve, rfl, hg, c0, c1, c2, c3, c4, c5, hvc, hve⟩ := (HA.out.below hbel).at hlt
      obtain ⟨a2, cap2, rfl⟩ := hvc.slice
      obtain ⟨a3, cap3, rfl⟩ := hve.slice
      have HV := hid hvc
      have HE := hid hve
      clear hvc hve
      have hsm := HL.out.at hlt
      have hs1 := hsm.2.1
      have hs2 := hsm.2.2
      clear hsm
      have q1 : (k : Int) < (ss.length : Int) := by omega
      go_wp2_with fail
      refine (toOne B ss[k] _ _ _ (by omega) (by omega) HV.out HE.out).mono ?_
      rintro e w1 ⟨uc, ue, rfl, huc, hue, hoc, hoe, hb1⟩
      have hlt1 := HR.out.lt
      obtain ⟨a4, cap4, rfl⟩ := huc.slice
      obtain ⟨a5, cap5, rfl⟩ := hue.slice
      have hR1 : w1.rowIs w.heap.size 49 (ss.length * 6) f := HR.out.of_block (hb1.block _ HR.out.lt)
      have d0 := hR1.cell (i := k * 6) (by omega)
      have d1 := hR1.cell (i := k * 6 + 1) (by omega)
      have d2 := hR1.cell (i := k * 6 + 2) (by omega)
      have d3 := hR1.cell (i := k * 6 + 3) (by omega)
      have d4 := hR1.cell (i := k * 6 + 4) (by omega)
      have d5 := hR1.cell (i := k * 6 + 5) (by omega)
      have f0 := hR1.frozen (k * 6)
      have f1 := hR1.frozen (k * 6 + 1)
      have f2 := hR1.frozen (k * 6 + 2)
      have f3 := hR1.frozen (k * 6 + 3)
      have f4 := hR1.frozen (k * 6 + 4)
      have f5 := hR1.frozen (k * 6 + 5)
      have hF1 : ∀ j (hj : j < ss.length), j < k → cellsOk w1 (w.heap.size + 1) f j ss[j] := fun j hj hjk => by
        obtain ⟨q0, q1, q2, q3, q4, q5⟩ := HF.out j hj hjk
        exact ⟨q0, q1, q2, q3, q4.below hb1, q5.below hb1⟩
      have hW1 : ∀ j (hj : j < ss.length), j < k → Nd.Own w1 (w.heap.size + 1) w1.heap.size (f (j * 6 + 4)) ss[j].cond.length ∧ Nd.Own w1 (w.heap.size + 1) w1.heap.size (f (j * 6 + 5)) ss[j].expr.length := fun j hj hjk =>
        ⟨ownMono (ownBelow (HW.out j hj hjk).1 hb1) (Nat.le_refl _) hb1.size, ownMono (ownBelow (HW.out j hj hjk).2 hb1) (Nat.le_refl _) hb1.size⟩
      obtain ⟨f', hR2, hF2, hW2⟩ := step6 (k := k) hR1 hlt hF1 hW1 (huc.mono hlt1) (hue.mono hlt1) (ownMono hoc hlt1 (Nat.le_refl _)) (ownMono hoe hlt1 (Nat.le_refl _))
      have HR2 := hid hR2
      have HF2 := hid hF2
      have HW2 : Hid (∀ j (hj : j < ss.length), j < k + 1 → Nd.Own (put6 w1 w.heap.size k ss[k] (.slice a4 ss[k].cond.length cap4) (.slice a5 ss[k].expr.length cap5)) (w.heap.size + 1) (put6 w1 w.heap.size k ss[k] (.slice a4 ss[k].cond.length cap4) (.slice a5 ss[k].expr.length cap5)).heap.size (f' (j * 6 + 4)) ss[j].cond.length ∧ Nd.Own (put6 w1 w.heap.size k ss[k] (.slice a4 ss[k].cond.length cap4) (.slice a5 ss[k].expr.length cap5)) (w.heap.size + 1) (put6 w1 w.heap.size k ss[k] (.slice a4 ss[k].cond.length cap4) (.slice a5 ss[k].expr.length cap5)).heap.size (f' (j * 6 + 5)) ss[j].expr.length) := hid (by rw [size_put6]; exact hW2)
      have HB : Hid (Below w.heap.size w (put6 w1 w.heap.size k ss[k] (.slice a4 ss[k].cond.length cap4) (.slice a5 ss[k].expr.length cap5))) := hid (below_put6 (hbel.trans (hb1.mono hbel.size)) (Nat.le_refl _))
      clear hR1 hR2 hF2 hF1 hW1 hW2 huc hue hoc hoe
      unfold put6 at HR2 HF2 HW2 HB
      go_wp2
      exact ⟨⟨k + 1, f', by simp, by omega, HR2, HF2, HW2, HB.out⟩, by simp [intOf]; omega⟩
    · have HX : Hid (At wr w.heap.size (.slice (some ⟨w.heap.size, 0, none⟩) ss.length ss.length) ss) := row_steps HR.out (fun j hj => HF.out j hj (by omega)) _ (Nat.le_refl _) (by unfold maxLen; omega)
      go_wp2
      go_ret
      exact ⟨_, rfl, HX.out, ⟨w.heap.size, f, rfl, Nat.le_refl _, HR.out.lt, HR.out, fun j hj => by rw [lenC_eq hj, lenE_eq hj]; exact HW.out j hj (by omega)⟩, hbel⟩
theorem toS (B : Nat) (ss : List StepD) (v : Value) (w : World) (hl : Small 1048576 ss) (ha : At w B v ss) :
    Calls Tryz.prog 7 #[v] w fun e w' => ∃ v', e = .returned v' ∧ At w' w.heap.size v' ss ∧ Below w.heap.size w w' :=
  (toS2 B ss v w hl ha).mono (fun e w' ⟨v', h1, h2, _, h4⟩ => ⟨v', h1, h2, h4⟩)
end St
end Go.Proofs.YtgghigfflpbjiaaGreatDoor
/- The law's comparisons of steps; an argument that is a list of steps, as it lies in memory. -/
namespace Go.Proofs.YtgghigfflpbjiaaGreatDoor
open Go.RowKit Go.Deep
set_option linter.unusedVariables false
namespace St
open Ex (hid)
open Nd (NodeD cellsI64 lt_of_cell)
theorem str_ne (s : ByteArray) : (s.toList != s.toList) = false := by simp
set_option maxRecDepth 100000 in
set_option maxHeartbeats 1000000 in
theorem eqOne (B1 B2 : Nat) (x : StepD) (c1 e1 c2 e2 : Value) (w : World) (hl : Small1 1048576 x) (h1 : Nd.At w B1 c1 x.cond) (h2 : Nd.At w B1 e1 x.expr) (h3 : Nd.At w B2 c2 x.cond) (h4 : Nd.At w B2 e2 x.expr) :
    Calls Tryz.prog 26 #[.agg #[.int .i64 x.kind, .int .i64 x.parent, .string x.name, .int .i64 x.arg, c1, e1], .agg #[.int .i64 x.kind, .int .i64 x.parent, .string x.name, .int .i64 x.arg, c2, e2]] w fun e w' => e = .returned (.bool true) ∧ Below w.heap.size w w' := by
  obtain ⟨a1, k1, rfl⟩ := h1.slice
  obtain ⟨a2, k2, rfl⟩ := h2.slice
  obtain ⟨a3, k3, rfl⟩ := h3.slice
  obtain ⟨a4, k4, rfl⟩ := h4.slice
  have hs1 := hl.2.1
  have hs2 := hl.2.2
  have hB : Below w.heap.size w ((w.alloc (.cells #[.int .i64 x.kind, .int .i64 x.parent, .string x.name, .int .i64 x.arg, .slice a1 x.cond.length k1, .slice a2 x.expr.length k2] 49)).alloc (.cells #[.int .i64 x.kind, .int .i64 x.parent, .string x.name, .int .i64 x.arg, .slice a3 x.cond.length k3, .slice a4 x.expr.length k4] 49)) := ((Below.refl _ w).alloc (Nat.le_refl _) _).alloc (by simp) _
  have H1 := hid (h1.below hB)
  have H2 := hid (h2.below hB)
  have H3 := hid (h3.below hB)
  have H4 := hid (h4.below hB)
  have HB := hid hB
  clear h1 h2 h3 h4 hB hl
  have g0 := str_ne x.name
  have g1 : (x.kind != x.kind) = false := by simp
  have g2 : (x.parent != x.parent) = false := by simp
  have g3 : (x.arg != x.arg) = false := by simp
  go_enter Tryz.func26, Tryz.ntmps26
  go_wp2_with fail
  refine (Nd.eqS B1 B2 x.cond _ _ _ (by omega) H1.out H3.out).mono ?_
  rintro e w1 ⟨rfl, hb1⟩
  have r1 := hb1.size
  simp only [World.size_alloc] at r1
  have d1 := (hb1.cell (p := ⟨w.heap.size, 5, none⟩) (by simp; omega)).trans (show _ = some (.slice a2 x.expr.length k2) by go_simp)
  have d2 := (hb1.cell (p := ⟨w.heap.size + 1, 5, none⟩) (by simp)).trans (show _ = some (.slice a4 x.expr.length k4) by go_simp)
  have l1 : w.heap.size < w1.heap.size := by omega
  have l2 : w.heap.size + 1 < w1.heap.size := by omega
  have HB1 := hid (HB.out.trans (hb1.mono HB.out.size))
  go_wp2_with fail
  refine (Nd.eqS B1 B2 x.expr _ _ _ (by omega) (H2.out.below hb1) (H4.out.below hb1)).mono ?_
  rintro e w2 ⟨rfl, hb2⟩
  have HB2 := hid (HB1.out.trans (hb2.mono HB1.out.size))
  go_wp2
  go_ret
  exact ⟨rfl, HB2.out⟩
set_option maxRecDepth 100000 in
set_option maxHeartbeats 2000000 in
theorem eqS (B1 B2 : Nat) (ss : List StepD) (v1 v2 : Value) (w : World) (hl : Small 1048576 ss) (h1 : At w B1 v1 ss) (h2 : At w B2 v2 ss) :
    Calls Tryz.prog 10 #[v1, v2] w fun e w' => e = .returned (.bool true) ∧ Below w.heap.size w w' := by
  obtain ⟨a1, c1, rfl⟩ := h1.slice
  obtain ⟨a2, c2, rfl⟩ := h2.slice
  have H1 := hid h1
  have H2 := hid h2
  have HL := hid hl
  have hlen := hl.1
  clear h1 h2 hl
  have hb : ((ss.length : Int) != (ss.length : Int)) = false := by simp
  go_enter Tryz.func10, Tryz.ntmps10
  go_wp2
  go_loopw [5] (fun i wr => ∃ k : Nat, i = .int .i64 k ∧ k ≤ ss.length ∧ Below w.heap.size w wr) (fun i _ => ss.length - (intOf i).toNat)
  case atStart => exact ⟨0, rfl, Nat.zero_le _, Below.refl _ _⟩
  case round =>
    obtain ⟨k, rfl, hk, hbel⟩ := hrel
    by_cases hlt : k < ss.length
    · obtain ⟨g1, o1, c1', e1', rfl, hg1, p0, p1, p2, p3, p4, p5, hc1, he1⟩ := (H1.out.below hbel).at hlt
      obtain ⟨g2, o2, c2', e2', rfl, hg2, u0, u1, u2, u3, u4, u5, hc2, he2⟩ := (H2.out.below hbel).at hlt
      have hsm := HL.out.at hlt
      have HE : Hid (∀ w1 : World, Below wr.heap.size wr w1 → Calls Tryz.prog 26 #[.agg #[.int .i64 ss[k].kind, .int .i64 ss[k].parent, .string ss[k].name, .int .i64 ss[k].arg, c1', e1'], .agg #[.int .i64 ss[k].kind, .int .i64 ss[k].parent, .string ss[k].name, .int .i64 ss[k].arg, c2', e2']] w1 fun e w' => e = .returned (.bool true) ∧ Below w1.heap.size w1 w') := fun w1 h => eqOne B1 B2 ss[k] c1' e1' c2' e2' w1 hsm (hc1.below h) (he1.below h) (hc2.below h) (he2.below h)
      obtain ⟨a3, c3, rfl⟩ := hc1.slice
      obtain ⟨a4, c4, rfl⟩ := he1.slice
      obtain ⟨a5, c5, rfl⟩ := hc2.slice
      obtain ⟨a6, c6, rfl⟩ := he2.slice
      clear hc1 he1 hc2 he2 hsm
      have t1 : (k : Int) < (ss.length : Int) := by omega
      go_wp2
      go_region_with ((go_at_call 26; refine (HE.out _ ?_).mono ?_; exact (Below.refl wr.heap.size wr).drew; rintro e w1 ⟨rfl, hb1⟩; have hbb : Below wr.heap.size wr w1 := ((Below.refl wr.heap.size wr).drew).trans hb1))
      all_goals go_wp2
      all_goals exact ⟨⟨k + 1, by simp, by omega, hbel.trans (hbb.mono hbel.size)⟩, by simp [intOf]; omega⟩
    · go_wp2
      go_ret
      exact ⟨rfl, hbel⟩
theorem cellsStep : Tryz.prog.cellsOf 42 = 6 := by kernel_rfl
theorem cellsStr : Tryz.prog.cellsOf 9 = 1 := by kernel_rfl
theorem cellsNs : Tryz.prog.cellsOf 40 = 1 := by kernel_rfl
section
variable {H : Type} {enc : TypeId × Value → H} {w : World} {base : Nat} {spare : Nat → Bool} {held : Bool} {fuel : Nat}
set_option maxRecDepth 100000 in
theorem open_one {cs : List Value} {x : DataW H × List MemPlace} (h : DataW.trod enc Tryz.prog w base spare held fuel 42 cs = some x) :
    ∃ (s : StepD) (vc ve : Value), cs = [.int .i64 s.kind, .int .i64 s.parent, .string s.name, .int .i64 s.arg, vc, ve] ∧ Nd.At w 0 vc s.cond ∧ Nd.At w 0 ve s.expr ∧ s.name.size ≤ maxLen ∧ s.cond.length ≤ maxLen ∧ s.expr.length ≤ maxLen := by
  obtain ⟨xs, n, rfl, _, hlen, hxl, hf⟩ := DataW.trod_struct Tryz.underlying42 h
  have h0 := hf 0 _ rfl
  have h1 := hf 1 _ rfl
  have h2 := hf 2 _ rfl
  have h3 := hf 3 _ rfl
  have h4 := hf 4 _ rfl
  have h5 := hf 5 _ rfl
  rw [cellsStep] at hlen
  match cs, hlen with
  | [a, b, c, d, e, f], _ =>
    match xs, hxl with
    | [x0, x1, x2, x3, x4, x5], _ =>
      simp [cellsStr, cellsI64, cellsNs] at h0 h1 h2 h3 h4 h5
      obtain ⟨n0, e0, _, _⟩ := DataW.trod_int Tryz.underlying2 h0
      obtain ⟨n1, e1, _, _⟩ := DataW.trod_int Tryz.underlying2 h1
      obtain ⟨s2, e2, _, b2⟩ := DataW.trod_string Tryz.underlying9 h2
      obtain ⟨n3, e3, _, _⟩ := DataW.trod_int Tryz.underlying2 h3
      obtain ⟨cs4, ha4, hl4⟩ := Nd.open_all h4
      obtain ⟨cs5, ha5, hl5⟩ := Nd.open_all h5
      simp at e0 e1 e2 e3
      subst e0 e1 e2 e3
      exact ⟨⟨n0, n1, s2, n3, cs4, cs5⟩, e, f, rfl, ha4, ha5, b2, hl4, hl5⟩
set_option maxRecDepth 100000 in
theorem open_all {v : Value} {x : DataW H × List MemPlace} (h : DataW.trod enc Tryz.prog w base spare held fuel 22 [v] = some x) :
    ∃ ss, At w 0 v ss ∧ Ok ss ∧ ss.length ≤ maxLen := by
  rcases open_slice Tryz.underlying22 h with ⟨hcs, _⟩ | ⟨a, len, cap, m, n, D, Pl, hcs, hb, hl, hcm, hm, _, hx⟩
  · obtain rfl : v = .slice none 0 0 := by simpa using hcs
    exact ⟨[], ⟨none, 0, rfl, Nat.le_refl _, Nat.zero_le _, .inl rfl⟩, fun _ h => by (cases h), Nat.zero_le _⟩
  · obtain rfl : v = .slice (some a) len cap := by simpa using hcs
    have hlm : len ≤ m := by rw [hm]; split <;> omega
    rw [cellsStep] at hx
    have each : ∀ i, i < len → ∃ q : StepD, w.cell? (a.add (i * 6)) = some (.int .i64 q.kind) ∧ w.cell? (a.add (i * 6 + 1)) = some (.int .i64 q.parent) ∧ w.cell? (a.add (i * 6 + 2)) = some (.string q.name) ∧ w.cell? (a.add (i * 6 + 3)) = some (.int .i64 q.arg) ∧ (∃ vc ve, w.cell? (a.add (i * 6 + 4)) = some vc ∧ w.cell? (a.add (i * 6 + 5)) = some ve ∧ Nd.At w 0 vc q.cond ∧ Nd.At w 0 ve q.expr) ∧ q.name.size ≤ maxLen ∧ q.cond.length ≤ maxLen ∧ q.expr.length ≤ maxLen := fun i hi => by
      obtain ⟨cs', c0, d0⟩ := hx i (by omega)
      obtain ⟨e, vc, ve, rfl, g1, g2, g3⟩ := open_one d0
      obtain ⟨_, _, hc⟩ := World.cells?_some c0
      have k0 := hc 0 (by omega)
      have k1 := hc 1 (by omega)
      have k2 := hc 2 (by omega)
      have k3 := hc 3 (by omega)
      have k4 := hc 4 (by omega)
      have k5 := hc 5 (by omega)
      rw [Nd.add_add] at k0 k1 k2 k3 k4 k5
      exact ⟨e, k0, k1, k2, k3, ⟨vc, ve, k4, k5, g1, g2⟩, g3⟩
    haveI : Inhabited StepD := ⟨⟨0, 0, ByteArray.empty, 0, [], []⟩⟩
    obtain ⟨F, hF⟩ := choose_lt each
    refine ⟨(List.range len).map F, ?_, ?_, by simp; omega⟩
    · refine ⟨some a, cap, by simp, by simpa using hl, hcm, ?_⟩
      rcases Nat.eq_zero_or_pos len with h0 | h0
      · exact .inl (by simp [h0])
      · right
        obtain ⟨b, off, spot⟩ := a
        have hspot : spot = none := by simpa [Addr.add] using World.cell?_spot (hF 0 h0).1
        subst hspot
        refine ⟨b, off, rfl, Nat.zero_le _, lt_of_cell (hF 0 h0).1, fun i hi => ?_⟩
        have hi' : i < len := by simpa using hi
        have h2 := hF i hi'
        simp only [List.getElem_map, List.getElem_range]
        simp only [Go.WideShapes.add_plain, ← Nat.add_assoc] at h2 ⊢
        exact ⟨h2.1, h2.2.1, h2.2.2.1, h2.2.2.2.1, h2.2.2.2.2.1⟩
    · intro q hq
      obtain ⟨i, hi, rfl⟩ := List.mem_map.1 hq
      have h2 := hF i (by simpa using hi)
      exact h2.2.2.2.2.2
end
end St
end Go.Proofs.YtgghigfflpbjiaaGreatDoor
