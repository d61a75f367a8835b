/- The law's copies of processes, and what they own. -/
import Derived.Test.YtpninlangjfcfaaEpA
namespace Go.Proofs.Ytpninlangjfcfaa
open Go.RowKit Go.Deep
set_option linter.unusedVariables false
namespace Ep
open Ex (hid)
open St (StepD old_cell old_free setB)
theorem infoR : (Try.prog.info? 53).map (fun i => (i.zero, i.size, i.bytes)) = some (some (Value.agg #[.slice none 0 0]), 1, 24) := by kernel_rfl
theorem own1Kept {w w' : World} {B C : Nat} {v : Value} {n : Nat} {mc me : Nat → Nat} (h : St.Own w B C v n mc me) (hb : ∀ g, B ≤ g → g < C → g < w.heap.size → w'.heap[g]? = w.heap[g]?) : St.Own w' B C v n mc me := h.kept hb
theorem own1Mono {w : World} {B B' C C' : Nat} {v : Value} {n : Nat} {mc me : Nat → Nat} (h : St.Own w B C v n mc me) (hB : B' ≤ B) (hC : C ≤ C') : St.Own w B' C' v n mc me := by
  obtain ⟨g, f, rfl, h1, h2, h3, h4⟩ := h
  exact ⟨g, f, rfl, Nat.le_trans hB h1, Nat.lt_of_lt_of_le h2 hC, h3, fun j hj => ⟨St.ownMono (h4 j hj).1 (Nat.le_refl _) hC, St.ownMono (h4 j hj).2 (Nat.le_refl _) hC⟩⟩
set_option maxRecDepth 100000 in
set_option maxHeartbeats 2000000 in
theorem toOne (B : Nat) (x : List StepD) (v1 : Value) (w : World) (hl : Small1 1048576 x) (hc : St.At w B v1 x) :
    Calls Try.prog 35 #[.agg #[v1]] w fun e w' => ∃ u1, e = .returned (.agg #[u1]) ∧ St.At w' w.heap.size u1 x ∧ St.Own w' w.heap.size w'.heap.size u1 x.length (St.lenC x) (St.lenE x) ∧ Below w.heap.size w w' := by
  obtain ⟨a, cap, rfl⟩ := hc.slice
  have HC := hid hc
  have HL := hid hl
  clear hc hl
  go_enter Try.func35, Try.ntmps35
  go_wp2_with fail
  refine (St.toS2 B x _ _ HL.out (HC.out.below ?hB)).mono ?_
  case hB => exact (((Below.refl _ w).alloc (Nat.le_refl _) _).alloc (by simp) _).alloc (by simp; omega) _
  rintro e w1 ⟨uc, rfl, hu, hown, hb1⟩
  obtain ⟨a3, cap3, rfl⟩ := hu.slice
  simp only [World.size_alloc] at hb1 hu hown
  have HU := hid hu
  have HOW := hid hown
  clear hu hown
  have hz : w.heap.size + 1 + 1 + 1 ≤ w1.heap.size := by have := hb1.size; simpa using this
  have l1 : w.heap.size + 1 < w1.heap.size := by omega
  have l2 : w.heap.size + 1 + 1 < w1.heap.size := by omega
  have c2 := old_cell hb1 (b := w.heap.size + 1 + 1) (o := 0) (v := .slice none 0 0) (by omega) (by go_simp)
  have d2 := old_cell hb1 (b := w.heap.size + 1) (o := 0) (v := .slice none 0 0) (by omega) (by go_simp)
  have f2 := old_free hb1 (b := w.heap.size + 1 + 1) (o := 0) (by omega) (by go_simp)
  have e2 := old_free hb1 (b := w.heap.size + 1) (o := 0) (by omega) (by go_simp)
  have hB0 : Below w.heap.size w w1 := ((((Below.refl _ w).alloc (Nat.le_refl _) _).alloc (by simp) _).alloc (by simp; omega) _).trans (hb1.mono (by omega))
  have HB0 := hid hB0
  clear hb1 hB0
  go_wp2
  refine bodyPost_ret (v := .agg #[.slice a3 x.length cap3]) (by simp [results, Try.results35, go_sem, d2]) rfl ⟨_, rfl, ?_, ?_, ?_⟩
  · exact ((HU.out.setBelow (by omega) _).setBelow (by omega) _).mono (by omega)
  · exact own1Mono (own1Kept HOW.out (fun g hg _ _ => by rw [Below.heap_setCell _ _ _ _ (by dsimp only; omega), Below.heap_setCell _ _ _ _ (by dsimp only; omega)])) (by omega) (by simp [World.setCell])
  · exact setB (setB HB0.out (by omega) _) (by omega) _
/-- Intervals one behind the other, ahead of C. -/
structure Iv (g C n : Nat) (lo hi : Nat → Nat) : Prop where
  base : ∀ j, j < n → g + 1 ≤ lo j ∧ hi j ≤ C
  sep : ∀ i j, i < j → j < n → hi i ≤ lo j
theorem Iv.mono {g C C' n : Nat} {lo hi : Nat → Nat} (h : Iv g C n lo hi) (hC : C ≤ C') : Iv g C' n lo hi := ⟨fun j hj => ⟨(h.base j hj).1, Nat.le_trans (h.base j hj).2 hC⟩, h.sep⟩
theorem Iv.nil (g C : Nat) (lo hi : Nat → Nat) : Iv g C 0 lo hi := ⟨fun j h => by omega, fun i j h h2 => by omega⟩
theorem Iv.step {g C n L H : Nat} {lo hi : Nat → Nat} (h : Iv g C n lo hi) (h1 : C ≤ L) (h2 : g + 1 ≤ L) (h3 : L ≤ H) : Iv g H (n + 1) (fun i => if i = n then L else lo i) (fun i => if i = n then H else hi i) := by
  refine ⟨fun j hj => ?_, fun i j hij hj => ?_⟩
  · by_cases e : j = n
    · simp only [e, if_true]; omega
    · have := h.base j (by omega); simp only [e, if_false]; omega
  · have e1 : ¬ i = n := by omega
    by_cases e : j = n
    · have := h.base i (by omega); simp only [e, e1, if_true, if_false]; omega
    · have := h.sep i j hij (by omega); simp only [e, e1, if_false]; omega
theorem Iv.apart {g C n : Nat} {lo hi : Nat → Nat} (h : Iv g C n lo hi) {i j : Nat} (hi' : i < n) (hj : j < n) (e : i ≠ j) : hi i ≤ lo j ∨ hi j ≤ lo i := by
  rcases Nat.lt_or_gt_of_ne e with h1 | h1
  · exact .inl (h.sep i j h1 hj)
  · exact .inr (h.sep j i h1 hi')
/-- A row that may be written into, with its rows, between two blocks. -/
def Own (w : World) (B C : Nat) (v : Value) (n : Nat) (ss : List (List StepD)) : Prop := ∃ g f, v = .slice (some ⟨g, 0, none⟩) n n ∧ B ≤ g ∧ g < C ∧ w.rowIs g 53 (n * 1) f ∧ ∃ lo hi, Iv g C ss.length lo hi ∧ ∀ j (h : j < ss.length), St.Own w (lo j) (hi j) (f (j)) ss[j].length (St.lenC ss[j]) (St.lenE ss[j])
theorem Own.kept {w w' : World} {B C n : Nat} {v : Value} {ss : List (List StepD)} (h : Own w B C v n ss) (hb : ∀ g, B ≤ g → g < C → g < w.heap.size → w'.heap[g]? = w.heap[g]?) : Own w' B C v n ss := by
  obtain ⟨g, f, rfl, h1, h2, h3, lo, hi, hv, h4⟩ := h
  exact ⟨g, f, rfl, h1, h2, h3.of_block (hb g h1 h2 h3.lt), lo, hi, hv, fun j hj => own1Kept (h4 j hj) (fun b hb1 hb2 hb3 => hb b (by have := hv.base j hj; omega) (by have := hv.base j hj; omega) hb3)⟩
theorem Own.below {w w' : World} {B C n : Nat} {v : Value} {ss : List (List StepD)} (h : Own w B C v n ss) (hb : Below w.heap.size w w') : Own w' B C v n ss := h.kept (fun g _ _ hg => hb.block g hg)
theorem Own.mono {w : World} {B B' C C' n : Nat} {v : Value} {ss : List (List StepD)} (h : Own w B C v n ss) (hB : B' ≤ B) (hC : C ≤ C') : Own w B' C' v n ss := by
  obtain ⟨g, f, rfl, h1, h2, h3, lo, hi, hv, h4⟩ := h
  exact ⟨g, f, rfl, Nat.le_trans hB h1, Nat.lt_of_lt_of_le h2 hC, h3, lo, hi, hv.mono hC, h4⟩
theorem Own.setBelow {w : World} {B C n b o : Nat} {v : Value} {ss : List (List StepD)} (h : Own w B C v n ss) (hb : b < B) (x : Value) : Own (w.setCell ⟨b, o, none⟩ x) B C v n ss :=
  h.kept (fun g hg _ _ => Below.heap_setCell _ _ _ _ (by dsimp only; omega))
def cellsOk (w : World) (B : Nat) (f : Nat → Value) (j : Nat) (s : (List StepD)) : Prop := True ∧ St.At w B (f (j)) s
theorem row_recs {w : World} {g : Nat} {t : TypeId} {f : Nat → Value} {ss : List (List StepD)} (h : w.rowIs g t (ss.length * 1) f)
    (hf : ∀ j (hj : j < ss.length), cellsOk w (g + 1) f j ss[j]) (cap : Nat) (hc : ss.length ≤ cap) (hm : cap ≤ maxLen) : At w g (.slice (some ⟨g, 0, none⟩) ss.length cap) ss := by
  refine ⟨_, _, rfl, hc, hm, .inr ⟨g, 0, rfl, Nat.le_refl _, h.lt, fun i hi => ?_⟩⟩
  obtain ⟨_, hy⟩ := hf i hi
  refine ⟨(f (i)), by rw [Nat.zero_add]; exact h.cell (by omega), hy.mono (by omega)⟩
def putR (w : World) (g k : Nat) (s : (List StepD)) (v1 : Value) : World := w.setCell ⟨g, k, none⟩ v1
theorem setR {w : World} {g : Nat} {t : TypeId} {n k : Nat} {f : Nat → Value} {v1 : Value} {s : (List StepD)} (h : w.rowIs g t n f) :
    (putR w g k s v1).rowIs g t n (fun i => if i = k then v1 else f i) :=
  h.set (k) _
theorem keep_putR {w : World} {B g k : Nat} {s : (List StepD)} {v1 : Value} (hg : g < B) : ∀ b, B ≤ b → (putR w g k s v1).heap[b]? = w.heap[b]? := fun b hb => by
  unfold putR
  repeat rw [Below.heap_setCell _ _ _ _ (by dsimp only; omega)]
theorem size_putR {w : World} {g k : Nat} {s : (List StepD)} {v1 : Value} : (putR w g k s v1).heap.size = w.heap.size := by simp [putR, World.setCell]
theorem below_putR {w W : World} {B g k : Nat} {s : (List StepD)} {v1 : Value} (h : Below B W w) (hg : B ≤ g) : Below B W (putR w g k s v1) :=
  setB h hg _
theorem fR_old {k j : Nat} {f : Nat → Value} {v1 : Value} {s : (List StepD)} {c : Nat} (hj : j ≠ k) (hc : c < 1) :
    (fun i => if i = k then v1 else f i) (j) = f (j) := by
  simp only [show ¬ j = k from hj, if_false]
theorem stepR {w : World} {g : Nat} {t : TypeId} {k L H : Nat} {lo hi : Nat → Nat} {f : Nat → Value} {v1 : Value} {ss : List (List StepD)} (h : w.rowIs g t (ss.length * 1) f) (hk : k < ss.length)
    (hf : ∀ j (hj : j < ss.length), j < k → cellsOk w (g + 1) f j ss[j]) (hl : ∀ j, j < k → g + 1 ≤ lo j) (hL : g + 1 ≤ L) (hw : ∀ j (hj : j < ss.length), j < k → St.Own w (lo j) (hi j) (f (j)) ss[j].length (St.lenC ss[j]) (St.lenE ss[j]))
    (hc : St.At w (g + 1) v1 ss[k]) (oc : St.Own w L H v1 ss[k].length (St.lenC ss[k]) (St.lenE ss[k])) :
    ∃ f', (putR w g k ss[k] v1).rowIs g t (ss.length * 1) f' ∧ (∀ j (hj : j < ss.length), j < k + 1 → cellsOk (putR w g k ss[k] v1) (g + 1) f' j ss[j]) ∧
      (∀ j (hj : j < ss.length), j < k + 1 → St.Own (putR w g k ss[k] v1) (if j = k then L else lo j) (if j = k then H else hi j) (f' (j)) ss[j].length (St.lenC ss[j]) (St.lenE ss[j])) := by
  have hkp : ∀ b, g + 1 ≤ b → (putR w g k ss[k] v1).heap[b]? = w.heap[b]? := keep_putR (by omega)
  refine ⟨_, setR (k := k) (v1 := v1) (s := ss[k]) h, fun j hj hjk => ?_, fun j hj hjk => ?_⟩
  · by_cases e : j = k
    · subst e
      exact ⟨trivial, by simpa using hc.kept (Nat.le_of_eq size_putR.symm) (fun b hb _ => hkp b hb)⟩
    · obtain ⟨q0, qx⟩ := hf j hj (by omega)
      refine ⟨trivial, ?_⟩
      have := qx.kept (w' := putR w g k ss[k] v1) (Nat.le_of_eq size_putR.symm) (fun b hb _ => hkp b hb)
      rw [← fR_old (k := k) (v1 := v1) (s := ss[k]) (f := f) (c := 0) e (by omega)] at this
      exact this
  · by_cases e : j = k
    · subst e
      simpa using own1Kept oc (fun b hb _ _ => hkp b (by omega))
    · have := own1Kept (hw j hj (by omega)) (fun b hb _ _ => hkp b (by have := hl j (by omega); omega))
      rw [← fR_old (k := k) (v1 := v1) (s := ss[k]) (f := f) (c := 0) e (by omega)] at this
      rw [if_neg e, if_neg e]
      exact this
set_option maxRecDepth 100000 in
set_option maxHeartbeats 2000000 in
theorem toS2 (B : Nat) (ss : List (List StepD)) (v : Value) (w : World) (hl : Small 1048576 ss) (ha : At w B v ss) :
    Calls Try.prog 22 #[v] w fun e w' => ∃ v', e = .returned v' ∧ At w' w.heap.size v' ss ∧ Own w' w.heap.size w'.heap.size v' ss.length ss ∧ Below w.heap.size w w' := by
  obtain ⟨a, cap, rfl⟩ := ha.slice
  have HA := hid ha
  have HL := hid hl
  have hlen := hl.1
  clear ha hl
  have hmk := Nu.make_row (P := Try.prog) Try.underlying31 infoR ss.length (by omega) (by omega)
  go_enter Try.func22, Try.ntmps22
  go_wp2
  go_loopw [4] (fun i wr => ∃ (k : Nat) (f : Nat → Value) (lo hi : Nat → Nat), i = .int .i64 k ∧ k ≤ ss.length ∧ Hid (Iv w.heap.size wr.heap.size k lo hi) ∧ Hid (wr.rowIs w.heap.size 53 (ss.length * 1) f) ∧ Hid (∀ j (hj : j < ss.length), j < k → cellsOk wr (w.heap.size + 1) f j ss[j]) ∧ Hid (∀ j (hj : j < ss.length), j < k → St.Own wr (lo j) (hi j) (f (j)) ss[j].length (St.lenC ss[j]) (St.lenE ss[j])) ∧ Below w.heap.size w wr) (fun i _ => ss.length - (intOf i).toNat)
  case atStart =>
    obtain ⟨f, hf⟩ := Nu.made_row w (Value.agg #[.slice none 0 0]).cells (ss.length) 53
    exact ⟨0, f, fun _ => 0, fun _ => 0, rfl, Nat.zero_le _, hid (Iv.nil _ _ _ _), hid (by rw [Nat.mul_one]; exact hf), fun j _ h => by omega, fun j _ h => by omega, (Below.refl _ _).alloc (Nat.le_refl _) _⟩
  case round =>
    obtain ⟨k, f, lo, hi, rfl, hkl, HV0, HR, HF, HW, hbel⟩ := hrel
    by_cases hlt : k < ss.length
    · obtain ⟨g, o, v1, rfl, hg, c0, hv⟩ := (HA.out.below hbel).at hlt
      obtain ⟨a21, k21, rfl⟩ := hv.slice
      have HV := hid hv
      clear hv
      have hs1 := hid (HL.out.at hlt)
      have q1 : (k : Int) < (ss.length : Int) := by omega
      go_wp2_with fail
      refine (toOne B ss[k] _ _ hs1.out HV.out).mono ?_
      rintro e w1 ⟨u1, rfl, hux, hox, hb1⟩
      have hlt1 := HR.out.lt
      obtain ⟨a41, k41, rfl⟩ := hux.slice
      have hR1 : w1.rowIs w.heap.size 53 (ss.length * 1) f := HR.out.of_block (hb1.block _ HR.out.lt)
      have d0 := hR1.cell (i := k) (by omega)
      have f0 := hR1.frozen (k)
      have hF1 : ∀ j (hj : j < ss.length), j < k → cellsOk w1 (w.heap.size + 1) f j ss[j] := fun j hj hjk => by
        obtain ⟨q0, qx⟩ := HF.out j hj hjk
        exact ⟨q0, qx.below hb1⟩
      have hW1 : ∀ j (hj : j < ss.length), j < k → St.Own w1 (lo j) (hi j) (f (j)) ss[j].length (St.lenC ss[j]) (St.lenE ss[j]) := fun j hj hjk =>
        own1Kept (HW.out j hj hjk) (fun b _ _ hl => hb1.block b hl)
      obtain ⟨f', hR2, hF2, hW2⟩ := stepR (k := k) hR1 hlt hF1 (fun j hj => (HV0.out.base j hj).1) hlt1 hW1 (hux.mono hlt1) hox
      have HV1 : Hid (Iv w.heap.size (putR w1 w.heap.size k ss[k] (.slice a41 ss[k].length k41)).heap.size (k + 1) (fun i => if i = k then wr.heap.size else lo i) (fun i => if i = k then w1.heap.size else hi i)) := hid (by rw [size_putR]; exact HV0.out.step (Nat.le_refl _) hlt1 hb1.size)
      have HR2 := hid hR2
      have HF2 := hid hF2
      have HW2 : Hid (∀ j (hj : j < ss.length), j < k + 1 → St.Own (putR w1 w.heap.size k ss[k] (.slice a41 ss[k].length k41)) (if j = k then wr.heap.size else lo j) (if j = k then w1.heap.size else hi j) (f' (j)) ss[j].length (St.lenC ss[j]) (St.lenE ss[j])) := hid hW2
      have HB : Hid (Below w.heap.size w (putR w1 w.heap.size k ss[k] (.slice a41 ss[k].length k41))) := hid (below_putR (hbel.trans (hb1.mono hbel.size)) (Nat.le_refl _))
      clear hR1 hR2 hF2 hF1 hW1 hW2 hux hox
      unfold putR at HR2 HF2 HW2 HB HV1
      go_wp2
      exact ⟨⟨k + 1, f', _, _, by simp, by omega, HV1, HR2, HF2, HW2, HB.out⟩, by simp [intOf]; omega⟩
    · have HX : Hid (At wr w.heap.size (.slice (some ⟨w.heap.size, 0, none⟩) ss.length ss.length) ss) := row_recs HR.out (fun j hj => HF.out j hj (by omega)) _ (Nat.le_refl _) (by unfold maxLen; omega)
      go_wp2
      go_ret
      exact ⟨_, rfl, HX.out, ⟨w.heap.size, f, rfl, Nat.le_refl _, HR.out.lt, HR.out, lo, hi, by obtain rfl : k = ss.length := by omega
                                                                                                exact HV0.out, fun j hj => HW.out j hj (by omega)⟩, hbel⟩
end Ep
end Go.Proofs.Ytpninlangjfcfaa
