/- The law's copies of records (GNode). -/
import Derived.Test.YtepfkfhbkbkepaaDoorGnA
namespace Go.Proofs.YtepfkfhbkbkepaaDoor
open Go.RowKit Go.Deep
set_option linter.unusedVariables false
namespace Gn
open Ex (hid)
open Nd (NodeD)
open Rc
theorem infoR : (Tryd.prog.info? 46).map (fun i => (i.zero, i.size, i.bytes)) = some (some (Value.agg #[.int .i64 0, .int .i64 0, .string { data := #[] }, .int .i64 0, .slice none 0 0]), 5, 64) := by kernel_rfl
set_option maxRecDepth 100000 in
set_option maxHeartbeats 2000000 in
theorem toOne (B : Nat) (x : GNodeD) (vx : Value) (w : World) (hl : x.expr.length ≤ 1048576) (hc : Nd.At w B vx x.expr) :
    Calls Tryd.prog 30 #[.agg #[.int .i64 x.kind, .int .i64 x.step, .string x.name, .int .i64 x.arg, vx]] w fun e w' => ∃ ux, e = .returned (.agg #[.int .i64 x.kind, .int .i64 x.step, .string x.name, .int .i64 x.arg, ux]) ∧ Nd.At w' w.heap.size ux x.expr ∧ Nd.Own w' w.heap.size w'.heap.size ux x.expr.length ∧ Below w.heap.size w w' := by
  obtain ⟨a, cap, rfl⟩ := hc.slice
  have HC := hid hc
  clear hc
  go_enter Tryd.func30, Tryd.ntmps30
  go_wp2_with fail
  refine (Nd.toS2 B x.expr _ _ hl (HC.out.below ?hB)).mono ?_
  case hB => exact (((Below.refl _ w).alloc (Nat.le_refl _) _).alloc (by simp) _).alloc (by simp; omega) _
  rintro e w1 ⟨uc, rfl, hu, hown, hb1⟩
  obtain ⟨a3, cap3, rfl⟩ := hu.slice
  simp only [World.size_alloc] at hb1 hu hown
  have HU := hid hu
  have HOW := hid hown
  clear hu hown
  have hz : w.heap.size + 1 + 1 + 1 ≤ w1.heap.size := by have := hb1.size; simpa using this
  have l0 : w.heap.size < w1.heap.size := by omega
  have l1 : w.heap.size + 1 < w1.heap.size := by omega
  have l2 : w.heap.size + 1 + 1 < w1.heap.size := by omega
  have c0 := old_cell hb1 (b := w.heap.size + 1 + 1) (o := 0) (v := .int .i64 x.kind) (by omega) (by go_simp)
  have c1 := old_cell hb1 (b := w.heap.size + 1 + 1) (o := 1) (v := .int .i64 x.step) (by omega) (by go_simp)
  have c2 := old_cell hb1 (b := w.heap.size + 1 + 1) (o := 2) (v := .string x.name) (by omega) (by go_simp)
  have c3 := old_cell hb1 (b := w.heap.size + 1 + 1) (o := 3) (v := .int .i64 x.arg) (by omega) (by go_simp)
  have c4 := old_cell hb1 (b := w.heap.size + 1 + 1) (o := 4) (v := .slice none 0 0) (by omega) (by go_simp)
  have d0 := old_cell hb1 (b := w.heap.size + 1) (o := 0) (v := .int .i64 0) (by omega) (by go_simp)
  have d1 := old_cell hb1 (b := w.heap.size + 1) (o := 1) (v := .int .i64 0) (by omega) (by go_simp)
  have d2 := old_cell hb1 (b := w.heap.size + 1) (o := 2) (v := .string { data := #[] }) (by omega) (by go_simp)
  have d3 := old_cell hb1 (b := w.heap.size + 1) (o := 3) (v := .int .i64 0) (by omega) (by go_simp)
  have d4 := old_cell hb1 (b := w.heap.size + 1) (o := 4) (v := .slice none 0 0) (by omega) (by go_simp)
  have f4 := old_free hb1 (b := w.heap.size + 1 + 1) (o := 4) (by omega) (by go_simp)
  have e0 := old_free hb1 (b := w.heap.size + 1) (o := 0) (by omega) (by go_simp)
  have e1 := old_free hb1 (b := w.heap.size + 1) (o := 1) (by omega) (by go_simp)
  have e2 := old_free hb1 (b := w.heap.size + 1) (o := 2) (by omega) (by go_simp)
  have e3 := old_free hb1 (b := w.heap.size + 1) (o := 3) (by omega) (by go_simp)
  have e4 := old_free hb1 (b := w.heap.size + 1) (o := 4) (by omega) (by go_simp)
  have hB0 : Below w.heap.size w w1 := ((((Below.refl _ w).alloc (Nat.le_refl _) _).alloc (by simp) _).alloc (by simp; omega) _).trans (hb1.mono (by omega))
  have HB0 := hid hB0
  clear hb1 hB0
  go_wp2
  refine bodyPost_ret (v := .agg #[.int .i64 x.kind, .int .i64 x.step, .string x.name, .int .i64 x.arg, .slice a3 x.expr.length cap3]) (by simp [results, Tryd.results30, go_sem, d0, d1, d2, d3, d4]) rfl ⟨_, rfl, ?_, ?_, ?_⟩
  · exact ((((((HU.out.setBelow (by omega) _).setBelow (by omega) _).setBelow (by omega) _).setBelow (by omega) _).setBelow (by omega) _).setBelow (by omega) _).mono (by omega)
  · exact ownMono (ownSet (ownSet (ownSet (ownSet (ownSet (ownSet HOW.out (by omega) _) (by omega) _) (by omega) _) (by omega) _) (by omega) _) (by omega) _) (by omega) (by simp [World.setCell])
  · exact (setB (setB (setB (setB (setB (setB HB0.out (by omega) _) (by omega) _) (by omega) _) (by omega) _) (by omega) _) (by omega) _)
/-- A row of records that may be written into, with its nodes, between two blocks. -/
def Own (w : World) (B C : Nat) (v : Value) (n : Nat) (mc : Nat → Nat) : Prop := ∃ g f, v = .slice (some ⟨g, 0, none⟩) n n ∧ B ≤ g ∧ g < C ∧ w.rowIs g 46 (n * 5) f ∧ ∀ j, j < n → Nd.Own w (g + 1) C (f (j * 5 + 4)) (mc j)
def lenX (ss : List GNodeD) (j : Nat) : Nat := match ss[j]? with
  | some e => e.expr.length
  | none => 0
theorem lenX_eq {ss : List GNodeD} {j : Nat} (h : j < ss.length) : lenX ss j = ss[j].expr.length := by unfold lenX; rw [List.getElem?_eq_getElem h]
theorem Own.kept {w w' : World} {B C n : Nat} {v : Value} {mc : Nat → Nat} (h : Own w B C v n mc) (hb : ∀ g, B ≤ g → g < C → g < w.heap.size → w'.heap[g]? = w.heap[g]?) : Own w' B C v n mc := by
  obtain ⟨g, f, rfl, h1, h2, h3, h4⟩ := h
  exact ⟨g, f, rfl, h1, h2, h3.of_block (hb g h1 h2 h3.lt), fun j hj => ownKept (h4 j hj) (fun b hb1 hb2 hb3 => hb b (by omega) hb2 hb3)⟩
theorem Own.below {w w' : World} {B C n : Nat} {v : Value} {mc : Nat → Nat} (h : Own w B C v n mc) (hb : Below w.heap.size w w') : Own w' B C v n mc := h.kept (fun g _ _ hg => hb.block g hg)
theorem Own.mono {w : World} {B B' C C' n : Nat} {v : Value} {mc : Nat → Nat} (h : Own w B C v n mc) (hB : B' ≤ B) (hC : C ≤ C') : Own w B' C' v n mc := by
  obtain ⟨g, f, rfl, h1, h2, h3, h4⟩ := h
  exact ⟨g, f, rfl, Nat.le_trans hB h1, Nat.lt_of_lt_of_le h2 hC, h3, fun j hj => ownMono (h4 j hj) (Nat.le_refl _) hC⟩
def cellsOk (w : World) (B : Nat) (f : Nat → Value) (j : Nat) (s : GNodeD) : Prop := f (j * 5) = .int .i64 s.kind ∧ f (j * 5 + 1) = .int .i64 s.step ∧ f (j * 5 + 2) = .string s.name ∧ f (j * 5 + 3) = .int .i64 s.arg ∧ Nd.At w B (f (j * 5 + 4)) s.expr
theorem row_recs {w : World} {g : Nat} {t : TypeId} {f : Nat → Value} {ss : List GNodeD} (h : w.rowIs g t (ss.length * 5) f)
    (hf : ∀ j (hj : j < ss.length), cellsOk w (g + 1) f j ss[j]) (cap : Nat) (hc : ss.length ≤ cap) (hm : cap ≤ maxLen) : At w g (.slice (some ⟨g, 0, none⟩) ss.length cap) ss := by
  refine ⟨_, _, rfl, hc, hm, .inr ⟨g, 0, rfl, Nat.le_refl _, h.lt, fun i hi => ?_⟩⟩
  obtain ⟨h0, h1, h2, h3, hy⟩ := hf i hi
  rw [Nat.zero_add, ← h0, ← h1, ← h2, ← h3]
  exact ⟨h.cell (by omega), h.cell (by omega), h.cell (by omega), h.cell (by omega), _, h.cell (by omega), hy.mono (by omega)⟩
def putR (w : World) (g k : Nat) (s : GNodeD) (vx : Value) : World := ((((w.setCell ⟨g, k * 5, none⟩ (.int .i64 s.kind)).setCell ⟨g, k * 5 + 1, none⟩ (.int .i64 s.step)).setCell ⟨g, k * 5 + 2, none⟩ (.string s.name)).setCell ⟨g, k * 5 + 3, none⟩ (.int .i64 s.arg)).setCell ⟨g, k * 5 + 4, none⟩ vx
theorem setR {w : World} {g : Nat} {t : TypeId} {n k : Nat} {f : Nat → Value} {vx : Value} {s : GNodeD} (h : w.rowIs g t n f) :
    (putR w g k s vx).rowIs g t n (fun i => if i = k * 5 + 4 then vx else if i = k * 5 + 3 then .int .i64 s.arg else if i = k * 5 + 2 then .string s.name else if i = k * 5 + 1 then .int .i64 s.step else if i = k * 5 then .int .i64 s.kind else f i) :=
  ((((h.set (k * 5) _).set (k * 5 + 1) _).set (k * 5 + 2) _).set (k * 5 + 3) _).set (k * 5 + 4) _
theorem at_putR {w : World} {B g k : Nat} {s : GNodeD} {vx v : Value} {ns : List NodeD} (h : Nd.At w B v ns) (hg : g < B) : Nd.At (putR w g k s vx) B v ns :=
  ((((h.setBelow hg _).setBelow hg _).setBelow hg _).setBelow hg _).setBelow hg _
theorem own_putR {w : World} {B C g k m : Nat} {s : GNodeD} {vx v : Value} (h : Nd.Own w B C v m) (hg : g < B) : Nd.Own (putR w g k s vx) B C v m :=
  ownSet (ownSet (ownSet (ownSet (ownSet h hg _) hg _) hg _) hg _) hg _
theorem below_putR {w W : World} {B g k : Nat} {s : GNodeD} {vx : Value} (h : Below B W w) (hg : B ≤ g) : Below B W (putR w g k s vx) :=
  setB (setB (setB (setB (setB h hg _) hg _) hg _) hg _) hg _
theorem size_putR {w : World} {g k : Nat} {s : GNodeD} {vx : Value} : (putR w g k s vx).heap.size = w.heap.size := by simp [putR, World.setCell]
theorem fR_old {k j : Nat} {f : Nat → Value} {vx : Value} {s : GNodeD} {c : Nat} (hj : j ≠ k) (hc : c < 5) :
    (fun i => if i = k * 5 + 4 then vx else if i = k * 5 + 3 then .int .i64 s.arg else if i = k * 5 + 2 then .string s.name else if i = k * 5 + 1 then .int .i64 s.step else if i = k * 5 then .int .i64 s.kind else f i) (j * 5 + c) = f (j * 5 + c) := by
  have h0 : ¬ j * 5 + c = k * 5 := by omega
  have h1 : ¬ j * 5 + c = k * 5 + 1 := by omega
  have h2 : ¬ j * 5 + c = k * 5 + 2 := by omega
  have h3 : ¬ j * 5 + c = k * 5 + 3 := by omega
  have h4 : ¬ j * 5 + c = k * 5 + 4 := by omega
  simp only [h0, h1, h2, h3, h4, if_false]
theorem stepR {w : World} {g : Nat} {t : TypeId} {k C : Nat} {f : Nat → Value} {vx : Value} {ss : List GNodeD} (h : w.rowIs g t (ss.length * 5) f) (hk : k < ss.length)
    (hf : ∀ j (hj : j < ss.length), j < k → cellsOk w (g + 1) f j ss[j]) (hw : ∀ j (hj : j < ss.length), j < k → Nd.Own w (g + 1) C (f (j * 5 + 4)) ss[j].expr.length)
    (hc : Nd.At w (g + 1) vx ss[k].expr) (oc : Nd.Own w (g + 1) C vx ss[k].expr.length) :
    ∃ f', (putR w g k ss[k] vx).rowIs g t (ss.length * 5) f' ∧ (∀ j (hj : j < ss.length), j < k + 1 → cellsOk (putR w g k ss[k] vx) (g + 1) f' j ss[j]) ∧
      (∀ j (hj : j < ss.length), j < k + 1 → Nd.Own (putR w g k ss[k] vx) (g + 1) C (f' (j * 5 + 4)) ss[j].expr.length) := by
  refine ⟨_, setR (k := k) (vx := vx) (s := ss[k]) h, fun j hj hjk => ?_, fun j hj hjk => ?_⟩
  · by_cases e : j = k
    · subst e
      exact ⟨by simp, by simp, by simp, by simp, by simpa using at_putR hc (by omega)⟩
    · obtain ⟨q0, q1, q2, q3, qx⟩ := hf j hj (by omega)
      exact ⟨(fR_old (c := 0) e (by omega)).trans q0, (fR_old (c := 1) e (by omega)).trans q1, (fR_old (c := 2) e (by omega)).trans q2, (fR_old (c := 3) e (by omega)).trans q3, by rw [fR_old (c := 4) e (by omega)]; exact at_putR qx (by omega)⟩
  · by_cases e : j = k
    · subst e
      simpa using own_putR oc (by omega)
    · have h := own_putR (k := k) (s := ss[k]) (vx := vx) (hw j hj (by omega)) (show g < g + 1 by omega)
      rw [← fR_old (k := k) (s := ss[k]) (vx := vx) (f := f) (c := 4) e (by omega)] at h
      exact h
set_option maxRecDepth 100000 in
set_option maxHeartbeats 2000000 in
theorem toS2 (B : Nat) (ss : List GNodeD) (v : Value) (w : World) (hl : Small 1048576 ss) (ha : At w B v ss) :
    Calls Tryd.prog 15 #[v] w fun e w' => ∃ v', e = .returned v' ∧ At w' w.heap.size v' ss ∧ Own w' w.heap.size w'.heap.size v' ss.length (lenX ss) ∧ Below w.heap.size w w' := by
  obtain ⟨a, cap, rfl⟩ := ha.slice
  have HA := hid ha
  have HL := hid hl
  have hlen := hl.1
  clear ha hl
  have hmk := Nd.make_row (P := Tryd.prog) Tryd.underlying30 infoR ss.length (by omega) (by omega)
  go_enter Tryd.func15, Tryd.ntmps15
  go_wp2
  go_loopw [4] (fun i wr => ∃ (k : Nat) (f : Nat → Value), i = .int .i64 k ∧ k ≤ ss.length ∧ Hid (wr.rowIs w.heap.size 46 (ss.length * 5) f) ∧ Hid (∀ j (hj : j < ss.length), j < k → cellsOk wr (w.heap.size + 1) f j ss[j]) ∧ Hid (∀ j (hj : j < ss.length), j < k → Nd.Own wr (w.heap.size + 1) wr.heap.size (f (j * 5 + 4)) ss[j].expr.length) ∧ Below w.heap.size w wr) (fun i _ => ss.length - (intOf i).toNat)
  case atStart =>
    obtain ⟨f, hf⟩ := Nd.made_row w (Value.agg #[.int .i64 0, .int .i64 0, .string { data := #[] }, .int .i64 0, .slice none 0 0]).cells (ss.length * 5) 46
    exact ⟨0, f, rfl, Nat.zero_le _, hf, fun j _ h => by omega, fun j _ h => by omega, (Below.refl _ _).alloc (Nat.le_refl _) _⟩
  case round =>
    obtain ⟨k, f, rfl, hkl, HR, HF, HW, hbel⟩ := hrel
    by_cases hlt : k < ss.length
    · obtain ⟨g, o, vx, rfl, hg, c0, c1, c2, c3, cx, hvx⟩ := (HA.out.below hbel).at hlt
      obtain ⟨a2, cap2, rfl⟩ := hvx.slice
      have HV := hid hvx
      clear hvx
      have hs1 := (HL.out.at hlt).2
      have q1 : (k : Int) < (ss.length : Int) := by omega
      go_wp2_with fail
      refine (toOne B ss[k] _ _ (by omega) HV.out).mono ?_
      rintro e w1 ⟨ux, rfl, hux, hox, hb1⟩
      have hlt1 := HR.out.lt
      obtain ⟨a4, cap4, rfl⟩ := hux.slice
      have hR1 : w1.rowIs w.heap.size 46 (ss.length * 5) f := HR.out.of_block (hb1.block _ HR.out.lt)
      have d0 := hR1.cell (i := k * 5) (by omega)
      have d1 := hR1.cell (i := k * 5 + 1) (by omega)
      have d2 := hR1.cell (i := k * 5 + 2) (by omega)
      have d3 := hR1.cell (i := k * 5 + 3) (by omega)
      have d4 := hR1.cell (i := k * 5 + 4) (by omega)
      have f0 := hR1.frozen (k * 5)
      have f1 := hR1.frozen (k * 5 + 1)
      have f2 := hR1.frozen (k * 5 + 2)
      have f3 := hR1.frozen (k * 5 + 3)
      have f4 := hR1.frozen (k * 5 + 4)
      have hF1 : ∀ j (hj : j < ss.length), j < k → cellsOk w1 (w.heap.size + 1) f j ss[j] := fun j hj hjk => by
        obtain ⟨q0, q1, q2, q3, qx⟩ := HF.out j hj hjk
        exact ⟨q0, q1, q2, q3, qx.below hb1⟩
      have hW1 : ∀ j (hj : j < ss.length), j < k → Nd.Own w1 (w.heap.size + 1) w1.heap.size (f (j * 5 + 4)) ss[j].expr.length := fun j hj hjk =>
        ownMono (ownBelow (HW.out j hj hjk) hb1) (Nat.le_refl _) hb1.size
      obtain ⟨f', hR2, hF2, hW2⟩ := stepR (k := k) hR1 hlt hF1 hW1 (hux.mono hlt1) (ownMono hox hlt1 (Nat.le_refl _))
      have HR2 := hid hR2
      have HF2 := hid hF2
      have HW2 : Hid (∀ j (hj : j < ss.length), j < k + 1 → Nd.Own (putR w1 w.heap.size k ss[k] (.slice a4 ss[k].expr.length cap4)) (w.heap.size + 1) (putR w1 w.heap.size k ss[k] (.slice a4 ss[k].expr.length cap4)).heap.size (f' (j * 5 + 4)) ss[j].expr.length) := hid (by rw [size_putR]; exact hW2)
      have HB : Hid (Below w.heap.size w (putR w1 w.heap.size k ss[k] (.slice a4 ss[k].expr.length cap4))) := hid (below_putR (hbel.trans (hb1.mono hbel.size)) (Nat.le_refl _))
      clear hR1 hR2 hF2 hF1 hW1 hW2 hux hox
      unfold putR at HR2 HF2 HW2 HB
      go_wp2
      exact ⟨⟨k + 1, f', by simp, by omega, HR2, HF2, HW2, HB.out⟩, by simp [intOf]; omega⟩
    · have HX : Hid (At wr w.heap.size (.slice (some ⟨w.heap.size, 0, none⟩) ss.length ss.length) ss) := row_recs HR.out (fun j hj => HF.out j hj (by omega)) _ (Nat.le_refl _) (by unfold maxLen; omega)
      go_wp2
      go_ret
      exact ⟨_, rfl, HX.out, ⟨w.heap.size, f, rfl, Nat.le_refl _, HR.out.lt, HR.out, fun j hj => by rw [lenX_eq hj]; exact HW.out j hj (by omega)⟩, hbel⟩
theorem toS (B : Nat) (ss : List GNodeD) (v : Value) (w : World) (hl : Small 1048576 ss) (ha : At w B v ss) :
    Calls Tryd.prog 15 #[v] w fun e w' => ∃ v', e = .returned v' ∧ At w' w.heap.size v' ss ∧ Below w.heap.size w w' :=
  (toS2 B ss v w hl ha).mono (fun e w' ⟨v', h1, h2, _, h4⟩ => ⟨v', h1, h2, h4⟩)
end Gn
end Go.Proofs.YtepfkfhbkbkepaaDoor
