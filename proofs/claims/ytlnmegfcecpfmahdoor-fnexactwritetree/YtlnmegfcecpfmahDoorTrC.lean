/- The law's copies of elements. -/
import Derived.Test.YtlnmegfcecpfmahDoorTrB
namespace Go.Proofs.YtlnmegfcecpfmahDoor
open Go.RowKit
set_option linter.unusedVariables false
namespace Tr
/-- A cell, and its mark, of a block that stood. -/
theorem old_cell {B : Nat} {W w : World} (h : Below B W w) {b o : Nat} (hb : b < B) {v : Value} (hc : W.cell? ⟨b, o, none⟩ = some v) : w.cell? ⟨b, o, none⟩ = some v := (h.cell (p := ⟨b, o, none⟩) hb).trans hc
theorem old_free {B : Nat} {W w : World} (h : Below B W w) {b o : Nat} (hb : b < B) (hc : W.frozen? ⟨b, o, none⟩ = false) : w.frozen? ⟨b, o, none⟩ = false := (h.frozen (p := ⟨b, o, none⟩) hb).trans hc
set_option maxRecDepth 100000 in
set_option maxHeartbeats 1000000 in
theorem toElem2 (B : Nat) (x : ElemD) (va : Value) (w : World) (hl : x.attrs.length ≤ 1048576) (ha : AttrsAt w B va x.attrs) :
    Calls Tryd.prog 30 #[.agg #[.string x.tag, .int .i64 x.parent, va]] w fun e w' => ∃ vb, e = .returned (.agg #[.string x.tag, .int .i64 x.parent, vb]) ∧ AttrsAt w' w.heap.size vb x.attrs ∧ AttrsOwn w' w.heap.size w'.heap.size vb x.attrs.length ∧ Below w.heap.size w w' := by
  obtain ⟨a, cap, rfl⟩ := ha.slice
  have HA : Hid (AttrsAt w B (.slice a x.attrs.length cap) x.attrs) := ha
  clear ha
  go_enter Tryd.func30, Tryd.ntmps30
  go_wp2_with fail
  refine (toAttrS2 B x.attrs _ _ hl (HA.out.below ?hB)).mono ?_
  case hB => exact (((Below.refl _ w).alloc (Nat.le_refl _) _).alloc (by simp) _).alloc (by simp; omega) _
  rintro e w1 ⟨vb, rfl, hb, hown, hb1⟩
  obtain ⟨a2, cap2, rfl⟩ := hb.slice
  have HOW : Hid (AttrsOwn w1 (w.heap.size + 1 + 1 + 1) w1.heap.size (.slice a2 x.attrs.length cap2) x.attrs.length) := hid (by simpa only [World.size_alloc] using hown)
  clear hown
  have HB : Hid (AttrsAt w1 (w.heap.size + 1 + 1 + 1) (.slice a2 x.attrs.length cap2) x.attrs) := hid (by simpa only [World.size_alloc] using hb)
  clear hb
  simp only [World.size_alloc] at hb1
  have hz : w.heap.size + 1 + 1 + 1 ≤ w1.heap.size := by have := hb1.size; simpa using this
  have l2 : w.heap.size + 1 + 1 < w1.heap.size := by omega
  have l1 : w.heap.size + 1 < w1.heap.size := by omega
  have c0 := old_cell hb1 (b := w.heap.size + 1 + 1) (o := 0) (v := .string x.tag) (by omega) (by go_simp)
  have c1 := old_cell hb1 (b := w.heap.size + 1 + 1) (o := 1) (v := .int .i64 x.parent) (by omega) (by go_simp)
  have c2 := old_cell hb1 (b := w.heap.size + 1 + 1) (o := 2) (v := .slice none 0 0) (by omega) (by go_simp)
  have d0 := old_cell hb1 (b := w.heap.size + 1) (o := 0) (v := .string { data := #[] }) (by omega) (by go_simp)
  have d1 := old_cell hb1 (b := w.heap.size + 1) (o := 1) (v := .int .i64 0) (by omega) (by go_simp)
  have d2 := old_cell hb1 (b := w.heap.size + 1) (o := 2) (v := .slice none 0 0) (by omega) (by go_simp)
  have f2 := old_free hb1 (b := w.heap.size + 1 + 1) (o := 2) (by omega) (by go_simp)
  have e0 := old_free hb1 (b := w.heap.size + 1) (o := 0) (by omega) (by go_simp)
  have e1 := old_free hb1 (b := w.heap.size + 1) (o := 1) (by omega) (by go_simp)
  have e2 := old_free hb1 (b := w.heap.size + 1) (o := 2) (by omega) (by go_simp)
  go_wp2
  have hB0 : Below w.heap.size w w1 := ((((Below.refl _ w).alloc (Nat.le_refl _) _).alloc (by simp) _).alloc (by simp; omega) _).trans (hb1.mono (by omega))
  exact bodyPost_ret (v := .agg #[.string x.tag, .int .i64 x.parent, .slice a2 x.attrs.length cap2]) (by simp [results, Tryd.results30, go_sem, d0, d1, d2]) rfl ⟨_, rfl,
    ((((HB.out.setBelow (by omega) _).setBelow (by omega) _).setBelow (by omega) _).setBelow (by omega) _).mono (by omega), ((((HOW.out.setBelow (by omega) _).setBelow (by omega) _).setBelow (by omega) _).setBelow (by omega) _).mono (by omega) (by simp [World.setCell]), setB (setB (setB (setB hB0 (by omega) _) (by omega) _) (by omega) _) (by omega) _⟩
theorem toElem (B : Nat) (x : ElemD) (va : Value) (w : World) (hl : x.attrs.length ≤ 1048576) (ha : AttrsAt w B va x.attrs) :
    Calls Tryd.prog 30 #[.agg #[.string x.tag, .int .i64 x.parent, va]] w fun e w' => ∃ vb, e = .returned (.agg #[.string x.tag, .int .i64 x.parent, vb]) ∧ AttrsAt w' w.heap.size vb x.attrs ∧ Below w.heap.size w w' :=
  (toElem2 B x va w hl ha).mono (fun e w' ⟨v', h1, h2, _, h4⟩ => ⟨v', h1, h2, h4⟩)
/-- A row of elements that may be written into, with its attrs, between two blocks. -/
def ElemsOwn (w : World) (B C : Nat) (v : Value) (n : Nat) (m : Nat → Nat) : Prop := ∃ g f, v = .slice (some ⟨g, 0, none⟩) n n ∧ B ≤ g ∧ g < C ∧ w.rowIs g 56 (n * 3) f ∧ ∀ j, j < n → AttrsOwn w (g + 1) C (f (j * 3 + 2)) (m j)
def lenOf (es : List ElemD) (j : Nat) : Nat := match es[j]? with
  | some e => e.attrs.length
  | none => 0
theorem lenOf_eq {es : List ElemD} {j : Nat} (h : j < es.length) : lenOf es j = es[j].attrs.length := by unfold lenOf; rw [List.getElem?_eq_getElem h]
theorem ElemsOwn.kept {w w' : World} {B C n : Nat} {v : Value} {m : Nat → Nat} (h : ElemsOwn w B C v n m) (hb : ∀ g, B ≤ g → g < C → g < w.heap.size → w'.heap[g]? = w.heap[g]?) : ElemsOwn w' B C v n m := by
  obtain ⟨g, f, rfl, h1, h2, h3, h4⟩ := h
  exact ⟨g, f, rfl, h1, h2, h3.of_block (hb g h1 h2 h3.lt), fun j hj => (h4 j hj).kept (fun b hb1 hb2 hb3 => hb b (by omega) hb2 hb3)⟩
theorem ElemsOwn.below {w w' : World} {B C n : Nat} {v : Value} {m : Nat → Nat} (h : ElemsOwn w B C v n m) (hb : Below w.heap.size w w') : ElemsOwn w' B C v n m := h.kept (fun g _ _ hg => hb.block g hg)
theorem row_elems {w : World} {g : Nat} {t : TypeId} {f : Nat → Value} {es : List ElemD} (h : w.rowIs g t (es.length * 3) f)
    (hf : ∀ j (hj : j < es.length), f (j * 3) = .string es[j].tag ∧ f (j * 3 + 1) = .int .i64 es[j].parent ∧ AttrsAt w (g + 1) (f (j * 3 + 2)) es[j].attrs) (cap : Nat) (hc : es.length ≤ cap) (hm : cap ≤ maxLen) : ElemsAt w g (.slice (some ⟨g, 0, none⟩) es.length cap) es := by
  refine ⟨_, _, rfl, hc, hm, .inr ⟨g, 0, rfl, Nat.le_refl _, h.lt, fun i hi => ?_⟩⟩
  obtain ⟨h0, h1, h2⟩ := hf i hi
  rw [Nat.zero_add, ← h0, ← h1]
  exact ⟨h.cell (by omega), h.cell (by omega), _, h.cell (by omega), h2.mono (by omega)⟩
theorem set3 {w : World} {g : Nat} {t : TypeId} {k : Nat} {f : Nat → Value} {va : Value} {es : List ElemD} (h : w.rowIs g t (es.length * 3) f)
    (hf : ∀ j (hj : j < es.length), j < k → f (j * 3) = .string es[j].tag ∧ f (j * 3 + 1) = .int .i64 es[j].parent ∧ AttrsAt w (g + 1) (f (j * 3 + 2)) es[j].attrs) (hk : k < es.length) (hv : AttrsAt w (g + 1) va es[k].attrs) :
    ∃ f', (((w.setCell ⟨g, k * 3, none⟩ (.string es[k].tag)).setCell ⟨g, k * 3 + 1, none⟩ (.int .i64 es[k].parent)).setCell ⟨g, k * 3 + 2, none⟩ va).rowIs g t (es.length * 3) f' ∧
      (∀ j (hj : j < es.length), j < k + 1 → f' (j * 3) = .string es[j].tag ∧ f' (j * 3 + 1) = .int .i64 es[j].parent ∧ AttrsAt (((w.setCell ⟨g, k * 3, none⟩ (.string es[k].tag)).setCell ⟨g, k * 3 + 1, none⟩ (.int .i64 es[k].parent)).setCell ⟨g, k * 3 + 2, none⟩ va) (g + 1) (f' (j * 3 + 2)) es[j].attrs) ∧ ∀ j, f' (j * 3 + 2) = if j = k then va else f (j * 3 + 2) := by
  have lift : ∀ {v : Value} {ats : List AttrD}, AttrsAt w (g + 1) v ats → AttrsAt (((w.setCell ⟨g, k * 3, none⟩ (.string es[k].tag)).setCell ⟨g, k * 3 + 1, none⟩ (.int .i64 es[k].parent)).setCell ⟨g, k * 3 + 2, none⟩ va) (g + 1) v ats :=
    fun h => ((h.setBelow (by omega) _).setBelow (by omega) _).setBelow (by omega) _
  refine ⟨_, ((h.set (k * 3) _).set (k * 3 + 1) _).set (k * 3 + 2) _, fun j hj hjk => ?_, fun j => ?_⟩
  rotate_left
  · by_cases e : j = k
    · subst e; simp
    · have h7 : ¬ j * 3 + 2 = k * 3 := by omega
      have h8 : ¬ j * 3 + 2 = k * 3 + 1 := by omega
      have h9 : ¬ j * 3 + 2 = k * 3 + 2 := by omega
      simp only [h7, h8, h9, e, if_false]
  by_cases e : j = k
  · subst e
    exact ⟨by simp, by simp, by simpa using lift hv⟩
  · have h1 : ¬ j * 3 = k * 3 := by omega
    have h2 : ¬ j * 3 = k * 3 + 1 := by omega
    have h3 : ¬ j * 3 = k * 3 + 2 := by omega
    have h4 : ¬ j * 3 + 1 = k * 3 := by omega
    have h5 : ¬ j * 3 + 1 = k * 3 + 1 := by omega
    have h6 : ¬ j * 3 + 1 = k * 3 + 2 := by omega
    have h7 : ¬ j * 3 + 2 = k * 3 := by omega
    have h8 : ¬ j * 3 + 2 = k * 3 + 1 := by omega
    have h9 : ¬ j * 3 + 2 = k * 3 + 2 := by omega
    simp only [h1, h2, h3, h4, h5, h6, h7, h8, h9, if_false]
    obtain ⟨q0, q1, q2⟩ := hf j hj (by omega)
    exact ⟨q0, q1, lift q2⟩
set_option maxRecDepth 100000 in
set_option maxHeartbeats 1000000 in
theorem toElemS2 (B : Nat) (es : List ElemD) (v : Value) (w : World) (hl : SmallE 1048576 es) (ha : ElemsAt w B v es) :
    Calls Tryd.prog 9 #[v] w fun e w' => ∃ v', e = .returned v' ∧ ElemsAt w' w.heap.size v' es ∧ ElemsOwn w' w.heap.size w'.heap.size v' es.length (lenOf es) ∧ Below w.heap.size w w' := by
  obtain ⟨a, cap, rfl⟩ := ha.slice
  have HA : Hid (ElemsAt w B (.slice a es.length cap) es) := ha
  have HL : Hid (SmallE 1048576 es) := hl
  have hlen := hl.1
  clear ha hl
  have hmk := make_row (P := Tryd.prog) Tryd.underlying27 infoElem es.length (by omega) (by omega)
  go_enter Tryd.func9, Tryd.ntmps9
  go_wp2
  go_loopw [4] (fun i wr => ∃ (k : Nat) (f : Nat → Value), i = .int .i64 k ∧ k ≤ es.length ∧ Hid (wr.rowIs w.heap.size 56 (es.length * 3) f) ∧ Hid (∀ j (hj : j < es.length), j < k → f (j * 3) = .string es[j].tag ∧ f (j * 3 + 1) = .int .i64 es[j].parent ∧ AttrsAt wr (w.heap.size + 1) (f (j * 3 + 2)) es[j].attrs) ∧ Hid (∀ j (hj : j < es.length), j < k → AttrsOwn wr (w.heap.size + 1) wr.heap.size (f (j * 3 + 2)) es[j].attrs.length) ∧ Below w.heap.size w wr) (fun i _ => es.length - (intOf i).toNat)
  case atStart =>
    obtain ⟨f, hf⟩ := made_row w (Value.agg #[.string { data := #[] }, .int .i64 0, .slice none 0 0]).cells (es.length * 3) 56
    exact ⟨0, f, rfl, Nat.zero_le _, hf, fun j _ h => by omega, fun j _ h => by omega, (Below.refl _ _).alloc (Nat.le_refl _) _⟩
  case round =>
    obtain ⟨k, f, rfl, hkl, HR, HF, HW, hbel⟩ := hrel
    by_cases hlt : k < es.length
    · obtain ⟨g, o, va, rfl, hg, c0, c1, c2, hva⟩ := (HA.out.below hbel).at hlt
      obtain ⟨a2, cap2, rfl⟩ := hva.slice
      have HV : Hid (AttrsAt wr B (.slice a2 es[k].attrs.length cap2) es[k].attrs) := hva
      clear hva
      have hsm : es[k].attrs.length ≤ 1048576 := by have := (HL.out.2 es[k] (List.getElem_mem hlt)).2.1; omega
      have q1 : (k : Int) < (es.length : Int) := by omega
      go_wp2_with fail
      refine (toElem2 B es[k] _ _ hsm HV.out).mono ?_
      rintro e w1 ⟨vb, rfl, hvb, hvo, hb1⟩
      have hlt1 := HR.out.lt
      obtain ⟨a3, cap3, rfl⟩ := hvb.slice
      have hR1 : w1.rowIs w.heap.size 56 (es.length * 3) f := HR.out.of_block (hb1.block _ HR.out.lt)
      have d0 := hR1.cell (i := k * 3) (by omega)
      have d1 := hR1.cell (i := k * 3 + 1) (by omega)
      have d2 := hR1.cell (i := k * 3 + 2) (by omega)
      have f0 := hR1.frozen (k * 3)
      have f1 := hR1.frozen (k * 3 + 1)
      have f2 := hR1.frozen (k * 3 + 2)
      have hF1 : ∀ j (hj : j < es.length), j < k → f (j * 3) = .string es[j].tag ∧ f (j * 3 + 1) = .int .i64 es[j].parent ∧ AttrsAt w1 (w.heap.size + 1) (f (j * 3 + 2)) es[j].attrs :=
        fun j hj hjk => ⟨(HF.out j hj hjk).1, (HF.out j hj hjk).2.1, (HF.out j hj hjk).2.2.below hb1⟩
      obtain ⟨f', hR2, hF2, hF3⟩ := set3 (k := k) hR1 hF1 hlt (hvb.mono hlt1)
      have HW2 : Hid (∀ j (hj : j < es.length), j < k + 1 → AttrsOwn (((w1.setCell ⟨w.heap.size, k * 3, none⟩ (.string es[k].tag)).setCell ⟨w.heap.size, k * 3 + 1, none⟩ (.int .i64 es[k].parent)).setCell ⟨w.heap.size, k * 3 + 2, none⟩ (.slice a3 es[k].attrs.length cap3)) (w.heap.size + 1) (((w1.setCell ⟨w.heap.size, k * 3, none⟩ (.string es[k].tag)).setCell ⟨w.heap.size, k * 3 + 1, none⟩ (.int .i64 es[k].parent)).setCell ⟨w.heap.size, k * 3 + 2, none⟩ (.slice a3 es[k].attrs.length cap3)).heap.size (f' (j * 3 + 2)) es[j].attrs.length) := hid (fun j hj hjk => by
        rw [hF3 j]
        by_cases e : j = k
        · subst e
          rw [if_pos rfl]
          exact (((hvo.mono (by omega) (Nat.le_refl _)).setBelow (by omega) _).setBelow (by omega) _).setBelow (by omega) _ |>.mono (Nat.le_refl _) (by simp [World.setCell])
        · rw [if_neg e]
          exact ((((HW.out j hj (by omega)).below hb1).mono (Nat.le_refl _) hb1.size).setBelow (by omega) _).setBelow (by omega) _ |>.setBelow (by omega) _ |>.mono (Nat.le_refl _) (by simp [World.setCell]))
      clear hvo hF3
      have HR2 := hid hR2
      have HF2 := hid hF2
      have hB : Below w.heap.size w w1 := hbel.trans (hb1.mono hbel.size)
      clear hR1 hR2 hF2 hF1 hvb
      go_wp2
      exact ⟨⟨k + 1, f', by simp, by omega, HR2, HF2, HW2, setB (setB (setB hB (Nat.le_refl _) _) (Nat.le_refl _) _) (Nat.le_refl _) _⟩, by simp [intOf]; omega⟩
    · have HX : Hid (ElemsAt wr w.heap.size (.slice (some ⟨w.heap.size, 0, none⟩) es.length es.length) es) := row_elems HR.out (fun j hj => HF.out j hj (by omega)) _ (Nat.le_refl _) (by unfold maxLen; omega)
      go_wp2
      go_ret
      exact ⟨_, rfl, HX.out, ⟨w.heap.size, f, rfl, Nat.le_refl _, HR.out.lt, HR.out, fun j hj => by rw [lenOf_eq hj]; exact HW.out j hj (by omega)⟩, hbel⟩
theorem toElemS (B : Nat) (es : List ElemD) (v : Value) (w : World) (hl : SmallE 1048576 es) (ha : ElemsAt w B v es) :
    Calls Tryd.prog 9 #[v] w fun e w' => ∃ v', e = .returned v' ∧ ElemsAt w' w.heap.size v' es ∧ Below w.heap.size w w' :=
  (toElemS2 B es v w hl ha).mono (fun e w' ⟨v', h1, h2, _, h4⟩ => ⟨v', h1, h2, h4⟩)
end Tr
end Go.Proofs.YtlnmegfcecpfmahDoor
