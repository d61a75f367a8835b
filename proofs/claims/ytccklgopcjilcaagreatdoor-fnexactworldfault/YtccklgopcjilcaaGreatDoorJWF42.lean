/- Laid together: KfC, KfO. -/
import Derived.Test.YtccklgopcjilcaaGreatDoorJWF39
import Derived.Test.YtccklgopcjilcaaGreatDoorJWF40
import Derived.Test.YtccklgopcjilcaaGreatDoorJWF41
import Derived.Test.YtccklgopcjilcaaGreatDoorJWF31
/- The chart that is asked, as the program's own; ChartFault of the program. Condition: the table of rules lies as its initialiser lays it. -/
namespace Go.Proofs.YtccklgopcjilcaaGreatDoor
open Go.RowKit Go.Deep
set_option linter.unusedVariables false
set_option linter.unusedSimpArgs false
namespace Kc
open Ex (inR evalCode evalVal vFault hid)
open St (StepD)
open Ch (RunD)
open Pf
def csOf (r : RunD) : CS := ⟨r.status, r.now, r.vars, fA r, fD r⟩
def cs0 (r : RunD) : CS := ⟨r.status, r.now, [0, 0, 0, 0], fun _ => 0, fun _ => 0⟩
def ints (l : List Int) : List Value := l.map fun x => .int .i64 x
theorem ints_len (l : List Int) : (ints l).length = l.length := by simp [ints]
theorem ints_get {l : List Int} {i : Nat} (h : i < l.length) : (ints l)[i]? = some (.int .i64 l[i]) := by simp [ints, h]
theorem getD_at {l : List Int} {i : Nat} (h : i < l.length) : l.getD i 0 = l[i] := by rw [List.getD_eq_getElem?_getD, List.getElem?_eq_getElem h]; rfl
theorem kval_vars {u : Value} {s : CS} {l : List Int} (hl : l.length = 4) {j : Nat} (hj : j < 55) : some (kval u { s with vars := l } j) = if 3 ≤ j ∧ j < 3 + (ints l).length then (ints l)[j - 3]? else some (kval u s j) := by
  rw [ints_len, hl]
  unfold kval
  by_cases h1 : 3 ≤ j ∧ j < 3 + 4
  · rw [if_pos h1, ints_get (by omega), if_neg (by omega), if_neg (by omega), if_neg (by omega), if_pos (by omega)]
    show some (Value.int .i64 (l.getD (j - 3) 0)) = _
    rw [getD_at (by omega)]
  · rw [if_neg h1]
    by_cases h0 : j < 3
    · by_cases e0 : j = 0
      · simp [e0]
      · by_cases e1 : j = 1
        · simp [e1]
        · have e2 : j = 2 := by omega
          simp [e2]
    · have h7 : ¬ j < 7 := by omega
      simp [h7, show j ≠ 0 by omega, show j ≠ 1 by omega, show j ≠ 2 by omega]
theorem kval_acts {u : Value} {s : CS} {l : List Int} (hl : l.length ≤ 24) (h0 : ∀ i, l.length ≤ i → s.acts i = 0) {j : Nat} (hj : j < 55) : some (kval u { s with acts := fun i => l.getD i 0 } j) = if 7 ≤ j ∧ j < 7 + (ints l).length then (ints l)[j - 7]? else some (kval u s j) := by
  rw [ints_len]
  unfold kval
  by_cases h1 : 7 ≤ j ∧ j < 7 + l.length
  · rw [if_pos h1, ints_get (by omega), if_neg (by omega), if_neg (by omega), if_neg (by omega), if_neg (by omega), if_pos (by omega)]
    show some (Value.int .i64 (l.getD (j - 7) 0)) = _
    rw [getD_at (by omega)]
  · rw [if_neg h1]
    by_cases h7 : j < 7
    · simp [h7]
    · by_cases h31 : j < 31
      · have e : l.getD (j - 7) 0 = 0 := by rw [List.getD_eq_getElem?_getD, List.getElem?_eq_none (by omega)]; rfl
        have e2 := h0 (j - 7) (by omega)
        simp only [List.getD_eq_getElem?_getD] at e
        simp [h7, h31, e2, e]
      · simp [h7, h31]
theorem kval_dues {u : Value} {s : CS} {l : List Int} (hl : l.length ≤ 24) (h0 : ∀ i, l.length ≤ i → s.dues i = 0) {j : Nat} (hj : j < 55) : some (kval u { s with dues := fun i => l.getD i 0 } j) = if 31 ≤ j ∧ j < 31 + (ints l).length then (ints l)[j - 31]? else some (kval u s j) := by
  rw [ints_len]
  unfold kval
  by_cases h1 : 31 ≤ j ∧ j < 31 + l.length
  · rw [if_pos h1, ints_get (by omega), if_neg (by omega), if_neg (by omega), if_neg (by omega), if_neg (by omega), if_neg (by omega)]
    show some (Value.int .i64 (l.getD (j - 31) 0)) = _
    rw [getD_at (by omega)]
  · rw [if_neg h1]
    by_cases h31 : j < 31
    · simp [h31]
    · have e : l.getD (j - 31) 0 = 0 := by rw [List.getD_eq_getElem?_getD, List.getElem?_eq_none (by omega)]; rfl
      have e2 := h0 (j - 31) (by omega)
      simp only [List.getD_eq_getElem?_getD] at e
      simp [h31, e2, e]
theorem info64s : (Tryz.prog.info? 2).map (·.size) = some 1 := by kernel_rfl
theorem ints_one (l : List Int) : ∀ v ∈ ints l, v.oneCell' = true := fun v hv => by
  obtain ⟨x, _, rfl⟩ := List.mem_map.1 hv
  rfl
/-- A list of numbers copied into the chart's block. -/
theorem KAt.copy {wg w : World} {R : Nat} {u : Value} {ss : List StepD} {s : CS} (h : KAt wg w R u ss s) {l : List Int} {a : Option Addr} {c : Nat} (ha : Nu.At w 0 (.slice a l.length c) l) {o n : Nat} (hn : l.length ≤ n) (ho : o + n ≤ 55) (h0 : 0 < l.length) (ty : TypeId) :
    (Builtin.copy_ #[110, 110] ty #[.slice (some ⟨R, o, none⟩) n n, .slice a l.length c]).run Tryz.prog w = .ok (.int .i64 (l.length : Int)) (w.setCells R o (ints l)) := by
  obtain ⟨g, oo, rfl, _, _⟩ := ha.at h0
  have hc : ∀ i (hi : i < l.length), w.cell? ⟨g, oo + i, none⟩ = some (.int .i64 l[i]) := fun i hi => by
    obtain ⟨g', o', e, _, hx⟩ := ha.at hi
    cases e
    exact hx
  have := run_copy_cells (P := Tryz.prog) w 110 110 ty 2 R o n n ⟨g, oo, none⟩ l.length c (ints l) Tryz.underlying110 info64s (by rw [ints_len]; exact (Nat.min_eq_left hn).symm) (fun j v hv => by
    have hj : j < l.length := by have := (List.getElem?_eq_some_iff.1 hv).1; rwa [ints_len] at this
    rw [ints_get hj] at hv
    cases hv
    rw [Addr.add_mid]
    exact hc j hj) (fun j hj => by rw [ints_len] at hj; rw [h.cell (by omega)]; rfl) (fun j hj => h.free _) (ints_one l)
  rw [ints_len] at this
  exact this
theorem fits_eq {ss : List StepD} {r : RunD} (hp : pFault ss = 0) (h1 : r.marks.length = ss.length) (h2 : r.dues.length = ss.length) : fitsS ss (csOf r) = fitsP ss r := by
  have hl : ss.length ≤ 24 := by have := (of_p hp).1; omega
  unfold fitsS fitsP
  have z : ∀ (l : List Int), l.length = ss.length → zero24 (fun i => l.getD i 0) = zeros l := fun l hll => by
    unfold zero24 zeros
    rw [Bool.eq_iff_iff, List.all_eq_true, List.all_eq_true]
    constructor
    · intro h x hx
      obtain ⟨i, hi, rfl⟩ := List.mem_iff_getElem.1 hx
      have h5 : (l.getD i 0 == 0) = true := h i (List.mem_range.2 (by omega))
      rwa [getD_at hi] at h5
    · intro h i hi
      show (l.getD i 0 == 0) = true
      by_cases hh : i < l.length
      · rw [getD_at hh]; exact h _ (List.getElem_mem hh)
      · rw [List.getD_eq_getElem?_getD, List.getElem?_eq_none (by omega)]; rfl
  show (if r.status ≠ 1 then zero24 (fA r) && zero24 (fD r) else noBad ss (csOf r) ss.length && (fA r 0 == 1)) = _
  rw [show zero24 (fA r) = zeros r.marks from z _ h1, show zero24 (fD r) = zeros r.dues from z _ h2]
  have e : noBad ss (csOf r) ss.length = (List.range ss.length).all fun k => !wrongP ss (fA r) (fD r) k := by
    unfold noBad
    rw [Bool.eq_iff_iff, List.all_eq_true, List.all_eq_true]
    constructor
    · intro h k hk; rw [← bad_wrong _ _ hp (List.mem_range.1 hk)]; exact h k hk
    · intro h k hk; rw [show badP ss (csOf r).acts (csOf r).dues k = wrongP ss (fA r) (fD r) k from bad_wrong _ _ hp (List.mem_range.1 hk)]; exact h k hk
  rw [e, Bool.and_comm (fA r 0 == 1)]
theorem getD_past {l : List Int} {i : Nat} (h : l.length ≤ i) : l.getD i 0 = 0 := by rw [List.getD_eq_getElem?_getD, List.getElem?_eq_none h]; rfl
theorem KAt.varsAll {wg w : World} {R : Nat} {u : Value} {ss : List StepD} {s : CS} (h : KAt wg w R u ss s) {l : List Int} (hl : l.length = 4) : KAt wg (w.setCells R 3 (ints l)) R u ss { s with vars := l } :=
  h.puts (by rw [ints_len]; omega) (fun j hj => kval_vars hl hj) hl h.pad
theorem KAt.actsAll {wg w : World} {R : Nat} {u : Value} {ss : List StepD} {s : CS} (h : KAt wg w R u ss s) {l : List Int} (hl : l.length = ss.length) (hs : ss.length ≤ 24) (h0 : ∀ i, s.acts i = 0) : KAt wg (w.setCells R 7 (ints l)) R u ss { s with acts := fun i => l.getD i 0 } :=
  h.puts (by rw [ints_len]; omega) (fun j hj => kval_acts (by omega) (fun i _ => h0 i) hj) h.len (fun i hi => ⟨getD_past (by omega), (h.pad i hi).2⟩)
theorem KAt.duesAll {wg w : World} {R : Nat} {u : Value} {ss : List StepD} {s : CS} (h : KAt wg w R u ss s) {l : List Int} (hl : l.length = ss.length) (hs : ss.length ≤ 24) (h0 : ∀ i, s.dues i = 0) : KAt wg (w.setCells R 31 (ints l)) R u ss { s with dues := fun i => l.getD i 0 } :=
  h.puts (by rw [ints_len]; omega) (fun j hj => kval_dues (by omega) (fun i _ => h0 i) hj) h.len (fun i hi => ⟨(h.pad i hi).1, getD_past (by omega)⟩)
theorem KAt.drew {wg w : World} {R : Nat} {u : Value} {ss : List StepD} {s : CS} (h : KAt wg w R u ss s) : KAt wg w.drew R u ss s := h.below (Below.refl _ w).drew
theorem kcs_new (u : Value) (st now : Int) : (kcs u ⟨st, now, [0, 0, 0, 0], fun _ => 0, fun _ => 0⟩).toArray = #[u, .int .i64 st, .int .i64 now, .int .i64 0, .int .i64 0, .int .i64 0, .int .i64 0, .int .i64 0, .int .i64 0, .int .i64 0, .int .i64 0, .int .i64 0, .int .i64 0, .int .i64 0, .int .i64 0, .int .i64 0, .int .i64 0, .int .i64 0, .int .i64 0, .int .i64 0, .int .i64 0, .int .i64 0, .int .i64 0, .int .i64 0, .int .i64 0, .int .i64 0, .int .i64 0, .int .i64 0, .int .i64 0, .int .i64 0, .int .i64 0, .int .i64 0, .int .i64 0, .int .i64 0, .int .i64 0, .int .i64 0, .int .i64 0, .int .i64 0, .int .i64 0, .int .i64 0, .int .i64 0, .int .i64 0, .int .i64 0, .int .i64 0, .int .i64 0, .int .i64 0, .int .i64 0, .int .i64 0, .int .i64 0, .int .i64 0, .int .i64 0, .int .i64 0, .int .i64 0, .int .i64 0, .int .i64 0] := rfl
/-- What courseOf answers. -/
def CPost (ss : List StepD) (r : RunD) (w : World) (e : Ending) (w' : World) : Prop :=
  ((chartC ss r ≠ 0 ∧ e = .returned (.tuple #[.pointer none, .int .i64 (chartC ss r)])) ∨ (chartC ss r = 0 ∧ ∃ wg R u, e = .returned (.tuple #[.pointer (some ⟨R, 0, none⟩), .int .i64 0]) ∧ KAt wg w' R u ss (csOf r) ∧ w.heap.size ≤ wg.heap.size)) ∧ Below w.heap.size w w'
theorem CPost.bad {ss : List StepD} {r : RunD} {w w' : World} {c : Int} (h : chartC ss r = c) (hc : c ≠ 0) (hb : Below w.heap.size w w') : CPost ss r w (.returned (.tuple #[.pointer none, .int .i64 c])) w' := ⟨.inl ⟨by rw [h]; exact hc, by rw [h]⟩, hb⟩
set_option maxRecDepth 100000 in
set_option maxHeartbeats 16000000 in
theorem courseOf (ss : List StepD) (r : RunD) (v v1 v2 v3 : Value) (w : World) (hsm : St.Small 1048576 ss) (hs : Ch.Small 1048576 r) (ha : St.At w 0 v ss) (hc : Ch.At w 0 v1 v2 v3 r) (hr : Rul w) :
    Calls Tryz.prog 72 #[v, .agg #[.int .i64 r.status, .int .i64 r.now, v1, v2, v3]] w (CPost ss r w) := by
  obtain ⟨a, cap, rfl⟩ := ha.slice
  obtain ⟨a1, c1, rfl⟩ := hc.vars.slice
  obtain ⟨a2, c2, rfl⟩ := hc.marks.slice
  obtain ⟨a3, c3, rfl⟩ := hc.dues.slice
  obtain ⟨w0, e0⟩ : ∃ w0, w0 = w.alloc (.cells #[.int .i64 r.status, .int .i64 r.now, .slice a1 r.vars.length c1, .slice a2 r.marks.length c2, .slice a3 r.dues.length c3] 112) := ⟨_, rfl⟩
  have hb0 : Below w.heap.size w w0 := by rw [e0]; exact (Below.refl _ w).alloc (Nat.le_refl _) _
  have hk0 : w0.heap[w.heap.size]? = some (.cells #[.int .i64 r.status, .int .i64 r.now, .slice a1 r.vars.length c1, .slice a2 r.marks.length c2, .slice a3 r.dues.length c3] 112) := by rw [e0]; exact Ch.new_blk _ _
  have HF := hid (procStepsC ss _ w0 hsm (ha.below hb0) (hr.below hb0 hr.lt))
  have HC := hid (hc.below hb0)
  have HS := hid hs
  have HB0 := hid hb0
  clear ha hc hsm hr hs hb0
  go_enter Tryz.func72, Tryz.ntmps72
  go_wp2_with fail
  rw [← e0]
  refine HF.out.mono ?_
  rintro e w1 ⟨⟨u, rfl, hu1, hu2⟩, hb1⟩
  have hk1 := (hb1.block _ (Ch.blk_lt hk0)).trans hk0
  have d0 : w1.cell? ⟨w.heap.size, 0, none⟩ = some (.int .i64 r.status) := Ch.blk_cell hk1 0
  have d1 : w1.cell? ⟨w.heap.size, 1, none⟩ = some (.int .i64 r.now) := Ch.blk_cell hk1 1
  have d2 : w1.cell? ⟨w.heap.size, 2, none⟩ = some (.slice a1 r.vars.length c1) := Ch.blk_cell hk1 2
  have d3 : w1.cell? ⟨w.heap.size, 3, none⟩ = some (.slice a2 r.marks.length c2) := Ch.blk_cell hk1 3
  have d4 : w1.cell? ⟨w.heap.size, 4, none⟩ = some (.slice a3 r.dues.length c3) := Ch.blk_cell hk1 4
  have HB1 := hid (HB0.out.trans (hb1.mono HB0.out.size))
  have HC1 := hid (HC.out.below hb1)
  have HK1 := hid hk1
  clear HF HC hb1 hk0 hk1 HB0 e0
  by_cases hf : pFault ss = 0
  · have b0 : (pFault ss != 0) = false := by simp [hf]
    obtain ⟨hPA, hcap⟩ := hu2 hf
    obtain ⟨gu, cu, rfl, hgu, _⟩ := hPA
    have HPA := hid (hu2 hf).1
    have HCAP := hid hcap
    have hl : ss.length ≤ 24 := by have := (of_p hf).1; omega
    have hpos : 0 < ss.length := by have := (of_p hf).1; omega
    have HP := hid hf
    have HNF := hid (numbersFault r (some ⟨gu, 0, none⟩) ss.length cu _ _ _ w1 hl HS.out HC1.out)
    clear hu1 hu2 hf hcap
    go_wp2_with fail
    refine HNF.out.mono ?_
    rintro e w2 ⟨rfl, hb2⟩
    have HB2 := hid (HB1.out.trans (hb2.mono HB1.out.size))
    have hk2 := (hb2.block _ (Ch.blk_lt HK1.out)).trans HK1.out
    have m0 : w2.cell? ⟨w.heap.size, 0, none⟩ = some (.int .i64 r.status) := Ch.blk_cell hk2 0
    have m1 : w2.cell? ⟨w.heap.size, 1, none⟩ = some (.int .i64 r.now) := Ch.blk_cell hk2 1
    have HPA2 := hid (HPA.out.below hb2)
    have HC2 := hid (HC1.out.below hb2)
    have HK2 := hid hk2
    clear HNF hb2 hk2 HPA HC1 HK1 HB1 d0 d1 d2 d3 d4
    by_cases hn : numC ss.length r = 0
    · have b2 : (numC ss.length r != 0) = false := by simp [hn]
      obtain ⟨hst, hlm, hld, _, _⟩ := of_num hn
      obtain ⟨_, _, hvf⟩ := of_state hst
      have H4 := hid (Ex.of_v hvf).1
      have HLM := hid hlm
      have HLD := hid hld
      have HOKc := hid (c_ok (r := r) HP.out hn)
      have HBADc := hid (c_form (r := r) HP.out hn)
      have HFE := hid (fits_eq HP.out hlm hld)
      clear hlm hld hst hvf hn
      obtain ⟨w3, e3⟩ : ∃ w3, w3 = w2.alloc (.cells #[.slice (some ⟨gu, 0, none⟩) ss.length cu, .int .i64 r.status, .int .i64 r.now, .int .i64 0, .int .i64 0, .int .i64 0, .int .i64 0, .int .i64 0, .int .i64 0, .int .i64 0, .int .i64 0, .int .i64 0, .int .i64 0, .int .i64 0, .int .i64 0, .int .i64 0, .int .i64 0, .int .i64 0, .int .i64 0, .int .i64 0, .int .i64 0, .int .i64 0, .int .i64 0, .int .i64 0, .int .i64 0, .int .i64 0, .int .i64 0, .int .i64 0, .int .i64 0, .int .i64 0, .int .i64 0, .int .i64 0, .int .i64 0, .int .i64 0, .int .i64 0, .int .i64 0, .int .i64 0, .int .i64 0, .int .i64 0, .int .i64 0, .int .i64 0, .int .i64 0, .int .i64 0, .int .i64 0, .int .i64 0, .int .i64 0, .int .i64 0, .int .i64 0, .int .i64 0, .int .i64 0, .int .i64 0, .int .i64 0, .int .i64 0, .int .i64 0, .int .i64 0] 129) := ⟨_, rfl⟩
      have h3 : Below w2.heap.size w2 w3 := by rw [e3]; exact (Below.refl _ w2).alloc (Nat.le_refl _) _
      have HKA : Hid (KAt w2 w3 w2.heap.size (.slice (some ⟨gu, 0, none⟩) ss.length cu) ss (cs0 r)) := hid ⟨HPA2.out, HCAP.out, h3, Nat.le_refl _, by rw [e3, cs0, kcs_new]; exact Ch.new_blk _ _, rfl, fun _ _ => ⟨rfl, rfl⟩⟩
      have l3 : w.heap.size < w2.heap.size := Ch.blk_lt HK2.out
      have hk3 := (HKA.out.bel.block _ l3).trans HK2.out
      have dd3 : w3.cell? ⟨w.heap.size, 2, none⟩ = some (.slice a1 r.vars.length c1) := Ch.blk_cell hk3 2
      obtain ⟨w4, e4⟩ : ∃ w4, w4 = w3.drew.setCells w2.heap.size 3 (ints r.vars) := ⟨_, rfl⟩
      have hc4 : ∀ ty, (Builtin.copy_ #[110, 110] ty #[.slice (some ⟨w2.heap.size, 3, none⟩) 4 4, .slice a1 r.vars.length c1]).run Tryz.prog w3.drew = .ok (.int .i64 (r.vars.length : Int)) w4 := fun ty => by
        rw [e4]
        exact HKA.out.drew.copy ((HC2.out.vars.below HKA.out.bel).below (Below.refl _ w3).drew) (by rw [H4.out]; omega) (by omega) (by rw [H4.out]; omega) ty
      have HK4 : Hid (KAt w2 w4 w2.heap.size (.slice (some ⟨gu, 0, none⟩) ss.length cu) ss { cs0 r with vars := r.vars }) := hid (by rw [e4]; exact HKA.out.drew.varsAll H4.out)
      clear e4 hk3
      clear HKA
      go_wp2
      rw [← e3]
      clear e3
      go_region
      clear hc4 dd3
      have hk4 := (HK4.out.bel.block _ l3).trans HK2.out
      have dd4 : w4.cell? ⟨w.heap.size, 3, none⟩ = some (.slice a2 r.marks.length c2) := Ch.blk_cell hk4 3
      obtain ⟨w5, e5⟩ : ∃ w5, w5 = w4.drew.setCells w2.heap.size 7 (ints r.marks) := ⟨_, rfl⟩
      have hc5 : ∀ ty, (Builtin.copy_ #[110, 110] ty #[.slice (some ⟨w2.heap.size, 7, none⟩) 24 24, .slice a2 r.marks.length c2]).run Tryz.prog w4.drew = .ok (.int .i64 (r.marks.length : Int)) w5 := fun ty => by
        rw [e5]
        exact HK4.out.drew.copy ((HC2.out.marks.below HK4.out.bel).below (Below.refl _ w4).drew) (by rw [HLM.out]; omega) (by omega) (by rw [HLM.out]; omega) ty
      have HK5 : Hid (KAt w2 w5 w2.heap.size (.slice (some ⟨gu, 0, none⟩) ss.length cu) ss { cs0 r with vars := r.vars, acts := fA r }) := hid (by rw [e5]; exact HK4.out.drew.actsAll HLM.out hl (fun _ => rfl))
      clear e5 hk4
      clear HK4
      go_wp2
      go_region
      clear hc5 dd4
      have hk5 := (HK5.out.bel.block _ l3).trans HK2.out
      have dd5 : w5.cell? ⟨w.heap.size, 4, none⟩ = some (.slice a3 r.dues.length c3) := Ch.blk_cell hk5 4
      obtain ⟨w6, e6⟩ : ∃ w6, w6 = w5.drew.setCells w2.heap.size 31 (ints r.dues) := ⟨_, rfl⟩
      have hc6 : ∀ ty, (Builtin.copy_ #[110, 110] ty #[.slice (some ⟨w2.heap.size, 31, none⟩) 24 24, .slice a3 r.dues.length c3]).run Tryz.prog w5.drew = .ok (.int .i64 (r.dues.length : Int)) w6 := fun ty => by
        rw [e6]
        exact HK5.out.drew.copy ((HC2.out.dues.below HK5.out.bel).below (Below.refl _ w5).drew) (by rw [HLD.out]; omega) (by omega) (by rw [HLD.out]; omega) ty
      have HK6 : Hid (KAt w2 w6 w2.heap.size (.slice (some ⟨gu, 0, none⟩) ss.length cu) ss (csOf r)) := hid (by rw [e6]; exact HK5.out.drew.duesAll HLD.out hl (fun _ => rfl))
      clear e6 hk5
      clear HK5
      go_wp2
      go_region
      clear hc6 dd5
      have HGT := hid (goesTogether w2 w6 _ _ ss (csOf r) HP.out HK6.out)
      rw [HFE.out] at HGT
      have HB6 := hid (HB2.out.trans (HK6.out.bel.mono HB2.out.size))
      have hle := HB2.out.size
      cases hfit : fitsP ss r
      · have HX := hid (HBADc.out hfit)
        rw [hfit] at HGT
        clear hfit HBADc HOKc
        go_wp2_with fail
        refine HGT.out.mono ?_
        rintro e w7 ⟨rfl, hb7⟩
        have HB7 := hid (HB6.out.trans (hb7.mono HB6.out.size))
        clear hb7
        go_wp2
        go_ret2
        exact CPost.bad HX.out (by decide) HB7.out
      · have HX := hid (HOKc.out hfit)
        rw [hfit] at HGT
        clear hfit HBADc HOKc
        go_wp2_with fail
        refine HGT.out.mono ?_
        rintro e w7 ⟨rfl, hb7⟩
        have HB7 := hid (HB6.out.trans (hb7.mono HB6.out.size))
        have HK7 := hid (HK6.out.below hb7)
        clear hb7
        go_wp2
        go_ret2
        exact ⟨.inr ⟨HX.out, w2, _, _, rfl, HK7.out, hle⟩, HB7.out⟩
    · have b2 : (numC ss.length r != 0) = true := bne_iff_ne.2 hn
      have HX := hid (c_num HP.out hn)
      have HN := hid hn
      clear hn
      go_wp2
      go_ret2
      exact CPost.bad HX.out HN.out HB2.out
  · have b0 : (pFault ss != 0) = true := bne_iff_ne.2 hf
    have HX := hid (c_proc (r := r) hf)
    have HN := hid hf
    obtain rfl := hu1 hf
    clear hf hu1 hu2
    go_wp2
    go_ret2
    exact CPost.bad HX.out HN.out HB1.out
end Kc
end Go.Proofs.YtccklgopcjilcaaGreatDoor
/- ChartFault and OpenSteps of the program. Condition: the table of rules lies as its initialiser lays it. -/
namespace Go.Proofs.YtccklgopcjilcaaGreatDoor
open Go.RowKit Go.Deep
set_option linter.unusedVariables false
set_option linter.unusedSimpArgs false
namespace Kc
open Ex (inR evalCode evalVal vFault hid)
open St (StepD)
open Ch (RunD)
open Pf
open Pt (kidVals)
def openN (ss : List StepD) (A : Nat → Int) (n : Nat) : List Nat := (List.range n).filter fun i => leafK (PJ ss i).kind && (A i == 1)
theorem openN_succ (ss : List StepD) (A : Nat → Int) (n : Nat) : openN ss A (n + 1) = openN ss A n ++ (if (leafK (PJ ss n).kind && (A n == 1)) = true then [n] else []) := by
  unfold openN
  rw [List.range_succ, List.filter_append]
  simp [List.filter_cons]
theorem openN_le (ss : List StepD) (A : Nat → Int) (n : Nat) : (openN ss A n).length ≤ n := by
  unfold openN
  have := List.length_filter_le (fun i => leafK (PJ ss i).kind && (A i == 1)) (List.range n)
  simpa using this
def openL (ss : List StepD) (r : RunD) : List Int := if chartC ss r = 0 then intsOf (openN ss (fA r) ss.length) else []
theorem open_ok {ss : List StepD} {r : RunD} (h : chartC ss r = 0) : openL ss r = intsOf (openN ss (fA r) ss.length) := by unfold openL; rw [if_pos h]
theorem open_bad {ss : List StepD} {r : RunD} (h : chartC ss r ≠ 0) : openL ss r = [] := by unfold openL; rw [if_neg h]
theorem openL_len {ss : List StepD} {r : RunD} : (openL ss r).length ≤ ss.length := by
  unfold openL
  split
  · rw [intsOf_len]; exact openN_le _ _ _
  · exact Nat.zero_le _
set_option maxRecDepth 100000 in
set_option maxHeartbeats 4000000 in
theorem implChartFault (ss : List StepD) (r : RunD) (v v1 v2 v3 : Value) (w : World) (hsm : St.Small 1048576 ss) (hs : Ch.Small 1048576 r) (ha : St.At w 0 v ss) (hc : Ch.At w 0 v1 v2 v3 r) (hr : Rul w) :
    Calls Tryz.prog 183 #[v, .agg #[.int .i64 r.status, .int .i64 r.now, v1, v2, v3]] w fun e w' => e = .returned (.int .i64 (chartC ss r)) ∧ Below w.heap.size w w' := by
  obtain ⟨a, cap, rfl⟩ := ha.slice
  obtain ⟨a1, c1, rfl⟩ := hc.vars.slice
  obtain ⟨a2, c2, rfl⟩ := hc.marks.slice
  obtain ⟨a3, c3, rfl⟩ := hc.dues.slice
  obtain ⟨w0, e0⟩ : ∃ w0, w0 = w.alloc (.cells #[.int .i64 r.status, .int .i64 r.now, .slice a1 r.vars.length c1, .slice a2 r.marks.length c2, .slice a3 r.dues.length c3] 112) := ⟨_, rfl⟩
  have hb0 : Below w.heap.size w w0 := by rw [e0]; exact (Below.refl _ w).alloc (Nat.le_refl _) _
  have HF := hid (courseOf ss r _ _ _ _ w0 hsm hs (ha.below hb0) (hc.below hb0) (hr.below hb0 hr.lt))
  have HB0 := hid hb0
  clear ha hc hsm hr hs hb0
  go_enter Tryz.func183, Tryz.ntmps183
  go_wp2_with fail
  rw [← e0]
  refine HF.out.mono ?_
  rintro e w1 ⟨h1, hb1⟩
  have hB1 := HB0.out.trans (hb1.mono HB0.out.size)
  rcases h1 with ⟨hne, rfl⟩ | ⟨hz, wg, R, u, rfl, hk, hle⟩
  · clear hne
    go_wp2
    go_ret
    exact ⟨rfl, hB1⟩
  · have HZ := hid hz
    clear hz hk
    go_wp2
    go_ret
    exact ⟨by rw [HZ.out]; rfl, hB1⟩
end Kc
end Go.Proofs.YtccklgopcjilcaaGreatDoor
