/- Laid together: KuB, KuC. -/
import Derived.Test.YtpgbjpfpgbjbeaaGreatDoorJCh27
import Derived.Test.YtpgbjpfpgbjbeaaGreatDoorJCh28
import Derived.Test.YtpgbjpfpgbjbeaaGreatDoorJCh29
import Derived.Test.YtpgbjpfpgbjbeaaGreatDoorJCh31
import Derived.Lib.SliceRun
import Derived.Tactics
import Derived.Tactics2
import Derived.Defers
import Derived.Laws.Pointers
/- The program's chart: idle from a step on, stopped; what a condition answers. -/
namespace Go.Proofs.YtpgbjpfpgbjbeaaGreatDoor
open Go.RowKit Go.Deep
set_option linter.unusedVariables false
set_option linter.unusedSimpArgs false
namespace Ku
open Ex (inR evalCode evalVal vFault hid)
open St (StepD)
open Pf
open Kc (CS upd zer endOf stopped idle pick aft allOver kid go mE mO Ok kid_mem kid_lt kid_in KAt Rides kval PBlk)
/-- What a call leaves that answers nothing. -/
def UPost (wg : World) (R : Nat) (u : Value) (ss : List StepD) (s' : CS) (w : World) (e : Ending) (w' : World) : Prop := e = .returned (.tuple #[]) ∧ KAt wg w' R u ss s' ∧ Rides R w w'
theorem zero64 : ∀ w, (zeroValue 2).run Tryz.prog w = .ok (.int .i64 0) w := fun w => by kernel_rfl
theorem clear_row {wg w : World} {R : Nat} {u : Value} {ss : List StepD} {s : CS} (h : KAt wg w R u ss s) {o n c : Nat} (hn : 0 < n) (ho : o + n ≤ 55) (ty : TypeId) :
    (Builtin.clear_ #[23] ty #[.slice (some ⟨R, o, none⟩) n c]).run Tryz.prog w = .ok (.tuple #[]) (w.setCells R o (List.replicate n (.int .i64 0))) :=
  Lib.run_clear_slice w 23 2 ty (.int .i64 0) Tryz.underlying23 zero64 rfl rfl R o n c hn (fun j hj => by rw [h.cell (by omega)]; rfl) (fun j hj => h.free _)
theorem kval_zerA {u : Value} {s : CS} {k e : Nat} (hk : k ≤ e) (he : e ≤ 24) {j : Nat} (hj : j < 55) : some (kval u { s with acts := zer s.acts k e } j) = if 7 + k ≤ j ∧ j < 7 + k + (List.replicate (e - k) (Value.int .i64 0)).length then (List.replicate (e - k) (Value.int .i64 0))[j - (7 + k)]? else some (kval u s j) := by
  rw [List.length_replicate]
  by_cases h1 : 7 + k ≤ j ∧ j < 7 + k + (e - k)
  · rw [if_pos h1, List.getElem?_replicate, if_pos (by omega)]
    unfold kval
    rw [if_neg (by omega), if_neg (by omega), if_neg (by omega), if_neg (by omega), if_pos (by omega)]
    show some (Value.int .i64 (zer s.acts k e (j - 7))) = _
    unfold zer
    rw [if_pos (by omega)]
  · rw [if_neg h1]
    unfold kval
    by_cases h7 : j < 7
    · simp [h7]
    · by_cases h31 : j < 31
      · have e2 : zer s.acts k e (j - 7) = s.acts (j - 7) := by unfold zer; rw [if_neg (by omega)]
        simp [h7, h31, e2]
      · simp [h7, h31]
theorem kval_zerD {u : Value} {s : CS} {k e : Nat} (hk : k ≤ e) (he : e ≤ 24) {j : Nat} (hj : j < 55) : some (kval u { s with dues := zer s.dues k e } j) = if 31 + k ≤ j ∧ j < 31 + k + (List.replicate (e - k) (Value.int .i64 0)).length then (List.replicate (e - k) (Value.int .i64 0))[j - (31 + k)]? else some (kval u s j) := by
  rw [List.length_replicate]
  by_cases h1 : 31 + k ≤ j ∧ j < 31 + k + (e - k)
  · rw [if_pos h1, List.getElem?_replicate, if_pos (by omega)]
    unfold kval
    rw [if_neg (by omega), if_neg (by omega), if_neg (by omega), if_neg (by omega), if_neg (by omega)]
    show some (Value.int .i64 (zer s.dues k e (j - 31))) = _
    unfold zer
    rw [if_pos (by omega)]
  · rw [if_neg h1]
    unfold kval
    by_cases h31 : j < 31
    · simp [h31]
    · have e2 : zer s.dues k e (j - 31) = s.dues (j - 31) := by unfold zer; rw [if_neg (by omega)]
      simp [h31, e2]
theorem zer_pad {f : Nat → Int} {k e n : Nat} (h : ∀ i, n ≤ i → f i = 0) : ∀ i, n ≤ i → zer f k e i = 0 := fun i hi => by
  unfold zer
  split
  · rfl
  · exact h i hi
theorem KAt.zerA {wg w : World} {R : Nat} {u : Value} {ss : List StepD} {s : CS} (h : KAt wg w R u ss s) {k e : Nat} (hk : k ≤ e) (he : e ≤ 24) : KAt wg (w.setCells R (7 + k) (List.replicate (e - k) (.int .i64 0))) R u ss { s with acts := zer s.acts k e } :=
  h.puts (by rw [List.length_replicate]; omega) (fun j hj => kval_zerA hk he hj) h.len (fun i hi => ⟨zer_pad (fun i hi => (h.pad i hi).1) i hi, (h.pad i hi).2⟩)
theorem KAt.zerD {wg w : World} {R : Nat} {u : Value} {ss : List StepD} {s : CS} (h : KAt wg w R u ss s) {k e : Nat} (hk : k ≤ e) (he : e ≤ 24) : KAt wg (w.setCells R (31 + k) (List.replicate (e - k) (.int .i64 0))) R u ss { s with dues := zer s.dues k e } :=
  h.puts (by rw [List.length_replicate]; omega) (fun j hj => kval_zerD hk he hj) h.len (fun i hi => ⟨(h.pad i hi).1, zer_pad (fun i hi => (h.pad i hi).2) i hi⟩)
set_option maxRecDepth 100000 in
set_option maxHeartbeats 8000000 in
theorem rest (wg w : World) (R : Nat) (u : Value) (ss : List StepD) (s : CS) (k : Nat) (hp : pFault ss = 0) (hk : k < ss.length) (h : KAt wg w R u ss s) :
    Calls Tryz.prog 84 #[.pointer (some ⟨R, 0, none⟩), .int .i64 (k : Int)] w (UPost wg R u ss (idle ss s k) w) := by
  have hl : ss.length ≤ 24 := by have := (of_p hp).1; omega
  have hE := Kc.end_of hk
  have he1 := hE.lt
  have he2 := hE.le
  have c0 := h.c0
  obtain ⟨gu, cu, eu, hgu, _⟩ := h.steps
  rw [eu] at c0
  have hst := h.steps
  have hcp := h.cap
  rw [eu] at hst hcp
  have HWB := hid (withAllBelow ss gu cu k w hl hk hst hcp)
  have HK := hid h
  have HID : Hid (idle ss s k = { s with acts := zer s.acts k (endOf ss k), dues := zer s.dues k (endOf ss k) }) := hid rfl
  have HEU := hid eu
  clear h hE hst hcp eu
  generalize endOf ss k = en at *
  unfold UPost
  go_enter Tryz.func84, Tryz.ntmps84
  go_wp2_with fail
  refine HWB.out.mono ?_
  rintro e w1 ⟨rfl, hb1⟩
  have hK1 := HK.out.below hb1
  have HR1 := hid (Rides.of_below (R := R) hb1)
  obtain ⟨w2, e2⟩ : ∃ w2, w2 = w1.setCells R (7 + k) (List.replicate (en - k) (.int .i64 0)) := ⟨_, rfl⟩
  have hc2 : ∀ ty, (Builtin.clear_ #[23] ty #[.slice (some ⟨R, 7 + k, none⟩) (en - k) (24 - k)]).run Tryz.prog w1 = .ok (.tuple #[]) w2 := fun ty => by rw [e2]; exact clear_row hK1 (by omega) (by omega) ty
  have hK2 : KAt wg w2 R u ss { s with acts := zer s.acts k en } := by rw [e2]; exact KAt.zerA hK1 (by omega) (by omega)
  have HR2 : Hid (Rides R w1 w2) := hid (by rw [e2]; exact Rides.sets R _ _ _)
  obtain ⟨w3, e3⟩ : ∃ w3, w3 = w2.setCells R (31 + k) (List.replicate (en - k) (.int .i64 0)) := ⟨_, rfl⟩
  have hc3 : ∀ ty, (Builtin.clear_ #[23] ty #[.slice (some ⟨R, 31 + k, none⟩) (en - k) (24 - k)]).run Tryz.prog w2 = .ok (.tuple #[]) w3 := fun ty => by rw [e3]; exact clear_row hK2 (by omega) (by omega) ty
  have HK3 : Hid (KAt wg w3 R u ss { s with acts := zer s.acts k en, dues := zer s.dues k en }) := hid (by rw [e3]; exact KAt.zerD hK2 (by omega) (by omega))
  have HR3 : Hid (Rides R w2 w3) := hid (by rw [e3]; exact Rides.sets R _ _ _)
  have q1 : ((en - k : Nat) : Int) = (en : Int) - (k : Int) := by omega
  have q2 : (k : Int) + ((en - k : Nat) : Int) = (en : Int) := by omega
  have q3 : (k : Int) ≤ (en : Int) := by omega
  have q4 : (en : Int) ≤ 24 := by omega
  have q5 : ¬ k = 24 := by omega
  have q6 : (k : Int) + ((en : Int) - (k : Int)) = (en : Int) := by omega
  clear e2 e3 hK1 hK2 hb1 HK HWB c0
  go_wp2
  go_end0
  exact ⟨rfl, by rw [HID.out]; exact HK3.out, (HR1.out.trans HR2.out).trans HR3.out⟩
theorem kval_stat {u : Value} {s : CS} (st : Int) {j : Nat} (hj : j < 55) : kval u { s with status := st } j = if 1 = j then .int .i64 st else kval u s j := by
  unfold kval
  by_cases e : j = 1
  · simp [e]
  · have e1 : ¬ 1 = j := fun h => e h.symm
    simp [e, e1]
theorem zeros_all {s : CS} {n : Nat} {f : Nat → Int} : zer f 0 24 = fun i => if i < 24 then 0 else f i := by
  funext i
  unfold zer
  by_cases h : i < 24
  · rw [if_pos (by omega), if_pos h]
  · rw [if_neg (by omega), if_neg h]
theorem one24 : (#[.int .i64 0, .int .i64 0, .int .i64 0, .int .i64 0, .int .i64 0, .int .i64 0, .int .i64 0, .int .i64 0, .int .i64 0, .int .i64 0, .int .i64 0, .int .i64 0, .int .i64 0, .int .i64 0, .int .i64 0, .int .i64 0, .int .i64 0, .int .i64 0, .int .i64 0, .int .i64 0, .int .i64 0, .int .i64 0, .int .i64 0, .int .i64 0] : Array Value).all (·.oneCell') = true := by simp [Value.oneCell']
set_option maxRecDepth 100000 in
set_option maxHeartbeats 8000000 in
theorem stop (wg w : World) (R : Nat) (u : Value) (ss : List StepD) (s : CS) (st : Int) (hl : ss.length ≤ 24) (h : KAt wg w R u ss s) :
    Calls Tryz.prog 114 #[.pointer (some ⟨R, 0, none⟩), .int .i64 st] w (UPost wg R u ss (stopped s st) w) := by
  have c1 := h.c1
  have f1 := h.free 1
  obtain ⟨w1, e1⟩ : ∃ w1, w1 = w.setCell ⟨R, 1, none⟩ (.int .i64 st) := ⟨_, rfl⟩
  have hK1 : KAt wg w1 R u ss { s with status := st } := by rw [e1]; exact h.put (by decide) (fun j hj => kval_stat st hj) h.len h.pad
  have HR1 : Hid (Rides R w w1) := hid (by rw [e1]; exact Rides.set R _ _ _)
  have h7 : w1.there R 7 (#[.int .i64 0, .int .i64 0, .int .i64 0, .int .i64 0, .int .i64 0, .int .i64 0, .int .i64 0, .int .i64 0, .int .i64 0, .int .i64 0, .int .i64 0, .int .i64 0, .int .i64 0, .int .i64 0, .int .i64 0, .int .i64 0, .int .i64 0, .int .i64 0, .int .i64 0, .int .i64 0, .int .i64 0, .int .i64 0, .int .i64 0, .int .i64 0] : Array Value).size := fun j hj => ⟨by rw [hK1.cell (by simp at hj; omega)]; rfl, hK1.free _⟩
  obtain ⟨w2, e2⟩ : ∃ w2, w2 = w1.setCells R 7 (#[.int .i64 0, .int .i64 0, .int .i64 0, .int .i64 0, .int .i64 0, .int .i64 0, .int .i64 0, .int .i64 0, .int .i64 0, .int .i64 0, .int .i64 0, .int .i64 0, .int .i64 0, .int .i64 0, .int .i64 0, .int .i64 0, .int .i64 0, .int .i64 0, .int .i64 0, .int .i64 0, .int .i64 0, .int .i64 0, .int .i64 0, .int .i64 0] : Array Value).toList := ⟨_, rfl⟩
  have hK2 : KAt wg w2 R u ss { s with status := st, acts := zer s.acts 0 24 } := by rw [e2]; exact KAt.zerA (k := 0) (e := 24) hK1 (by omega) (by omega)
  have HR2 : Hid (Rides R w1 w2) := hid (by rw [e2]; exact Rides.sets R _ _ _)
  have h31 : w2.there R 31 (#[.int .i64 0, .int .i64 0, .int .i64 0, .int .i64 0, .int .i64 0, .int .i64 0, .int .i64 0, .int .i64 0, .int .i64 0, .int .i64 0, .int .i64 0, .int .i64 0, .int .i64 0, .int .i64 0, .int .i64 0, .int .i64 0, .int .i64 0, .int .i64 0, .int .i64 0, .int .i64 0, .int .i64 0, .int .i64 0, .int .i64 0, .int .i64 0] : Array Value).size := fun j hj => ⟨by rw [hK2.cell (by simp at hj; omega)]; rfl, hK2.free _⟩
  obtain ⟨w3, e3⟩ : ∃ w3, w3 = w2.setCells R 31 (#[.int .i64 0, .int .i64 0, .int .i64 0, .int .i64 0, .int .i64 0, .int .i64 0, .int .i64 0, .int .i64 0, .int .i64 0, .int .i64 0, .int .i64 0, .int .i64 0, .int .i64 0, .int .i64 0, .int .i64 0, .int .i64 0, .int .i64 0, .int .i64 0, .int .i64 0, .int .i64 0, .int .i64 0, .int .i64 0, .int .i64 0, .int .i64 0] : Array Value).toList := ⟨_, rfl⟩
  have hK3 : KAt wg w3 R u ss { s with status := st, acts := zer s.acts 0 24, dues := zer s.dues 0 24 } := by rw [e3]; exact KAt.zerD (k := 0) (e := 24) hK2 (by omega) (by omega)
  have HR3 : Hid (Rides R w2 w3) := hid (by rw [e3]; exact Rides.sets R _ _ _)
  have HK3 : Hid (KAt wg w3 R u ss (stopped s st)) := hid (by
    have ez : ∀ f : Nat → Int, (∀ i, ss.length ≤ i → f i = 0) → zer f 0 24 = fun _ => 0 := fun f hf => by
      funext i
      unfold zer
      by_cases hi : i < 24
      · rw [if_pos (by omega)]
      · rw [if_neg (by omega)]; exact hf i (by omega)
    have e := hK3
    rw [ez s.acts (fun i hi => (h.pad i hi).1), ez s.dues (fun i hi => (h.pad i hi).2)] at e
    exact e)
  have E2 := hid e2
  have E3 := hid e3
  have E1 := hid e1
  clear h hK1 hK2 hK3 e1 e2 e3
  unfold UPost
  go_enter Tryz.func114, Tryz.ntmps114
  go_upto_region 1 with fail
  rw [← E1.out]
  go_wp2_with (first | (refine wpList_store_mid rfl 69 _ _ rfl R 7 #[.int .i64 0, .int .i64 0, .int .i64 0, .int .i64 0, .int .i64 0, .int .i64 0, .int .i64 0, .int .i64 0, .int .i64 0, .int .i64 0, .int .i64 0, .int .i64 0, .int .i64 0, .int .i64 0, .int .i64 0, .int .i64 0, .int .i64 0, .int .i64 0, .int .i64 0, .int .i64 0, .int .i64 0, .int .i64 0, .int .i64 0, .int .i64 0] rfl rfl h7 (by kernel_rfl) one24 ?_; rw [← E2.out]) | (refine wpList_store_mid rfl 69 _ _ rfl R 31 #[.int .i64 0, .int .i64 0, .int .i64 0, .int .i64 0, .int .i64 0, .int .i64 0, .int .i64 0, .int .i64 0, .int .i64 0, .int .i64 0, .int .i64 0, .int .i64 0, .int .i64 0, .int .i64 0, .int .i64 0, .int .i64 0, .int .i64 0, .int .i64 0, .int .i64 0, .int .i64 0, .int .i64 0, .int .i64 0, .int .i64 0, .int .i64 0] rfl rfl h31 (by kernel_rfl) one24 ?_; rw [← E3.out]))
  go_end0
  exact ⟨rfl, HK3.out, (HR1.out.trans HR2.out).trans HR3.out⟩
/-- What a condition answers: none is a yes. -/
def ansC (c : List Nd.NodeD) (vars : List Int) : Int := if c.length = 0 then 0 else evalCode c vars
def ansV (c : List Nd.NodeD) (vars : List Int) : Int := if c.length = 0 then 1 else evalVal c vars
set_option maxRecDepth 100000 in
set_option maxHeartbeats 4000000 in
theorem answerTo (c : List Nd.NodeD) (vars : List Int) (v v2 : Value) (w : World) (hl : c.length ≤ 1048576) (hl2 : vars.length ≤ 1048576) (ha : Nd.At w 0 v c) (ha2 : Nu.At w 0 v2 vars) :
    Calls Tryz.prog 130 #[v, v2] w fun e w' => e = .returned (.agg #[.int .i64 (ansC c vars), .int .i64 (ansV c vars)]) ∧ Below w.heap.size w w' := by
  have hb0 : Below w.heap.size w (w.alloc (.cells #[.int .i64 0, .int .i64 0] 159)) := (Below.refl _ w).alloc (Nat.le_refl _) _
  have HEV := hid (Ex.implEvalExpr 0 0 c vars v v2 (w.alloc (.cells #[.int .i64 0, .int .i64 0] 159)) hl hl2 (ha.below hb0) (ha2.below hb0))
  obtain ⟨a, cap, rfl⟩ := ha.slice
  obtain ⟨a2, cap2, rfl⟩ := ha2.slice
  clear ha ha2
  by_cases h0 : c.length = 0
  · have b0 : ((c.length : Int) == 0) = true := by simp [h0]
    have HX : Hid (ansC c vars = 0 ∧ ansV c vars = 1) := hid (by unfold ansC ansV; rw [if_pos h0, if_pos h0]; exact ⟨rfl, rfl⟩)
    clear h0
    go_enter Tryz.func130, Tryz.ntmps130
    go_wp2
    refine bodyPost_ret (v := .agg #[.int .i64 0, .int .i64 1]) (by simp [results, Tryz.results130, go_sem]) rfl ⟨by rw [HX.out.1, HX.out.2], (Below.refl _ w).alloc (Nat.le_refl _) _⟩
  · have b0 : ((c.length : Int) == 0) = false := by simp [h0]
    have HX : Hid (ansC c vars = evalCode c vars ∧ ansV c vars = evalVal c vars) := hid (by unfold ansC ansV; rw [if_neg h0, if_neg h0]; exact ⟨rfl, rfl⟩)
    clear h0
    generalize evalCode c vars = ec at *
    generalize evalVal c vars = ev at *
    go_enter Tryz.func130, Tryz.ntmps130
    go_wp2_with fail
    refine HEV.out.mono ?_
    rintro e w1 ⟨rfl, hb1⟩
    have B1 : Below w.heap.size w w1 := hb0.trans (hb1.mono (by simp))
    simp only [World.size_alloc] at hb1
    have l1 : w.heap.size < w1.heap.size := by have := hb1.size; simp at this; omega
    have r0 := kept_cell hb1 (b := w.heap.size) (o := 0) (v := .int .i64 0) (by omega) (by go_simp)
    have r1 := kept_cell hb1 (b := w.heap.size) (o := 1) (v := .int .i64 0) (by omega) (by go_simp)
    have f0 := kept_free hb1 (b := w.heap.size) (o := 0) (by omega) (by go_simp)
    have f1 := kept_free hb1 (b := w.heap.size) (o := 1) (by omega) (by go_simp)
    go_wp2
    refine bodyPost_ret (v := .agg #[.int .i64 ec, .int .i64 ev]) (by simp [results, Tryz.results130, go_sem, r0, r1]) rfl ⟨by rw [HX.out.1, HX.out.2], (B1.setCell (p := ⟨w.heap.size, 0, none⟩) (Nat.le_refl _) _).setCell (p := ⟨w.heap.size, 1, none⟩) (Nat.le_refl _) _⟩
end Ku
end Go.Proofs.YtpgbjpfpgbjbeaaGreatDoor
/- The program's closure that enters a step. -/
namespace Go.Proofs.YtpgbjpfpgbjbeaaGreatDoor
open Go.RowKit Go.Deep
set_option linter.unusedVariables false
set_option linter.unusedSimpArgs false
namespace Ku
open Ex (inR evalCode evalVal vFault hid)
open St (StepD)
open Pf
open Kc (CS upd zer endOf stopped idle pick aft allOver kid go mE mO Ok kid_mem kid_lt kid_in KAt Rides kval PBlk cntK beginG behindG)
/-- A step with its place, in a block of its own. -/
def StepAt (w : World) (b : Nat) (ss : List StepD) (k : Nat) : Prop := ∃ (h : k < ss.length) (kv vc ve : Value), PBlk w b #[.int .i64 (k : Int), .int .i64 ((path ss (k + 1)).length : Int), kv, .int .i64 ss[k].kind, .int .i64 ss[k].parent, .string ss[k].name, .int .i64 ss[k].arg, vc, ve] ∧ PCells w ss k h kv vc ve
theorem StepAt.rides {w w' wg : World} {R b : Nat} {u : Value} {ss : List StepD} {k : Nat} {s : CS} (h : StepAt w b ss k) (hb : b ≠ R) (hr : Rides R w w') (hk : KAt wg w R u ss s) (hb2 : ∀ (kv vc ve : Value) (h : k < ss.length), PBlk w b #[.int .i64 (k : Int), .int .i64 ((path ss (k + 1)).length : Int), kv, .int .i64 ss[k].kind, .int .i64 ss[k].parent, .string ss[k].name, .int .i64 ss[k].arg, vc, ve] → PCells wg ss k h kv vc ve) : StepAt w' b ss k := by
  obtain ⟨h1, kv, vc, ve, h2, h3⟩ := h
  have hw := hr.below hk.bel hk.old
  exact ⟨h1, kv, vc, ve, (hr.block b (Ch.blk_lt h2) hb).trans h2, (hb2 kv vc ve h1 h2).below hw⟩
/-- What the closure holds: the chart's pointer, the step's number, the step; all lies newer than the chart. -/
structure Clo (wg w : World) (R b1 b2 b3 : Nat) (ss : List StepD) (k : Nat) : Prop where
  kl : k < ss.length
  n1 : R < b1
  n2 : R < b2
  n3 : R < b3
  c1 : w.heap[b1]? = some (.cells #[.pointer (some ⟨R, 0, none⟩)] 66)
  c2 : w.heap[b2]? = some (.cells #[.int .i64 (k : Int)] 2)
  c3 : ∃ kv vc ve, PBlk w b3 #[.int .i64 (k : Int), .int .i64 ((path ss (k + 1)).length : Int), kv, .int .i64 ss[k].kind, .int .i64 ss[k].parent, .string ss[k].name, .int .i64 ss[k].arg, vc, ve] ∧ PCells wg ss k kl kv vc ve
theorem Clo.rides {wg w w' : World} {R b1 b2 b3 : Nat} {ss : List StepD} {k : Nat} (h : Clo wg w R b1 b2 b3 ss k) (hr : Rides R w w') : Clo wg w' R b1 b2 b3 ss k := by
  have h1 := h.n1
  have h2 := h.n2
  have h3 := h.n3
  obtain ⟨kv, vc, ve, h4, h5⟩ := h.c3
  exact ⟨h.kl, h1, h2, h3, (hr.block _ (Ch.blk_lt h.c1) (by omega)).trans h.c1, (hr.block _ (Ch.blk_lt h.c2) (by omega)).trans h.c2, kv, vc, ve, (hr.block _ (Ch.blk_lt h4) (by omega)).trans h4, h5⟩
theorem KAt.cells {wg w : World} {R : Nat} {u : Value} {ss : List StepD} {s : CS} (h : KAt wg w R u ss s) {k : Nat} (hk : k < ss.length) : ∃ gu cu kv vc ve, u = .slice (some ⟨gu, 0, none⟩) ss.length cu ∧ gu < wg.heap.size ∧ w.cell? ⟨gu, k * 9, none⟩ = some (.int .i64 (k : Int)) ∧ w.cell? ⟨gu, k * 9 + 1, none⟩ = some (.int .i64 ((path ss (k + 1)).length : Int)) ∧ w.cell? ⟨gu, k * 9 + 2, none⟩ = some kv ∧ w.cell? ⟨gu, k * 9 + 3, none⟩ = some (.int .i64 ss[k].kind) ∧ w.cell? ⟨gu, k * 9 + 4, none⟩ = some (.int .i64 ss[k].parent) ∧ w.cell? ⟨gu, k * 9 + 5, none⟩ = some (.string ss[k].name) ∧ w.cell? ⟨gu, k * 9 + 6, none⟩ = some (.int .i64 ss[k].arg) ∧ w.cell? ⟨gu, k * 9 + 7, none⟩ = some vc ∧ w.cell? ⟨gu, k * 9 + 8, none⟩ = some ve ∧ PCells wg ss k hk kv vc ve := by
  obtain ⟨gu, cu, rfl, hgu, hc⟩ := h.st
  obtain ⟨kv, vc, ve, d0, d1, d2, d3, d4, d5, d6, d7, d8, hpc⟩ := hc k hk
  have e : ∀ {o : Nat} {x : Value}, wg.cell? ⟨gu, o, none⟩ = some x → w.cell? ⟨gu, o, none⟩ = some x := fun hx => (h.bel.cell (p := ⟨gu, _, none⟩) hgu).trans hx
  exact ⟨gu, cu, kv, vc, ve, rfl, hgu, e d0, e d1, e d2, e d3, e d4, e d5, e d6, e d7, e d8, hpc⟩
set_option maxRecDepth 100000 in
set_option maxHeartbeats 8000000 in
theorem entering (wg w : World) (R : Nat) (u : Value) (ss : List StepD) (s : CS) (k : Nat) (hl : ss.length ≤ 24) (hk : k < ss.length) (h : KAt wg w R u ss s) :
    Calls Tryz.prog 40 #[.pointer (some ⟨R, 0, none⟩), .int .i64 (k : Int)] w fun e w' => (∃ b1 b2 b3, e = .returned (.func (.func 73) #[] #[.pointer (some ⟨b1, 0, none⟩), .pointer (some ⟨b2, 0, none⟩), .pointer (some ⟨b3, 0, none⟩)]) ∧ Clo wg w' R b1 b2 b3 ss k) ∧ Below w.heap.size w w' := by
  have hRl := h.lt
  have c0 := h.c0
  obtain ⟨gu, cu, kv, vc, ve, eu, hgu, d0, d1, d2, d3, d4, d5, d6, d7, d8, hpc⟩ := KAt.cells h hk
  subst eu
  obtain ⟨ak, ck, rfl⟩ := hpc.kids.slice
  obtain ⟨ac, cc, rfl⟩ := hpc.cond.slice
  obtain ⟨ae, ce, rfl⟩ := hpc.expr.slice
  have HPC := hid hpc
  have hgl : gu < w.heap.size := Nat.lt_of_lt_of_le hgu h.bel.size
  have hmf : ∀ (fn : Fn) (first cap : Array Value) (w : World), (Instr.makeFunc fn first cap).run Tryz.prog w = .ok (.func fn first cap) w := fun _ _ _ _ => rfl
  have q1 : (k : Int) < (ss.length : Int) := by omega
  obtain ⟨wB, eB⟩ : ∃ wB, wB = (w.alloc (.cells #[.pointer (some ⟨R, 0, none⟩)] 66)).alloc (.cells #[.int .i64 (k : Int)] 2) := ⟨_, rfl⟩
  have hbB : Below w.heap.size w wB := by rw [eB]; exact ((Below.refl _ w).alloc (Nat.le_refl _) _).alloc (by simp) _
  obtain ⟨b1, eb1⟩ : ∃ b1, b1 = w.heap.size := ⟨_, rfl⟩
  obtain ⟨b2, eb2⟩ : ∃ b2, b2 = w.heap.size + 1 := ⟨_, rfl⟩
  have k1 : wB.heap[b1]? = some (.cells #[.pointer (some ⟨R, 0, none⟩)] 66) := by rw [eB, eb1, Below.heap_alloc _ _ _ (by simp)]; exact Ch.new_blk _ _
  have k2 : wB.heap[b2]? = some (.cells #[.int .i64 (k : Int)] 2) := by rw [eB, eb2]; exact Ch.new_at (by simp) _
  have HSB : Hid (∀ wx, Below wB.heap.size wB wx → wx.heap[b1]? = some (.cells #[.pointer (some ⟨R, 0, none⟩)] 66) ∧ wx.heap[b2]? = some (.cells #[.int .i64 (k : Int)] 2) ∧ wx.cell? ⟨R, 0, none⟩ = some (.slice (some ⟨gu, 0, none⟩) ss.length cu) ∧ wx.cell? ⟨gu, k * 9, none⟩ = some (.int .i64 (k : Int)) ∧ wx.cell? ⟨gu, k * 9 + 1, none⟩ = some (.int .i64 ((path ss (k + 1)).length : Int)) ∧ wx.cell? ⟨gu, k * 9 + 2, none⟩ = some (.slice ak (kidsL ss k).length ck) ∧ wx.cell? ⟨gu, k * 9 + 3, none⟩ = some (.int .i64 ss[k].kind) ∧ wx.cell? ⟨gu, k * 9 + 4, none⟩ = some (.int .i64 ss[k].parent) ∧ wx.cell? ⟨gu, k * 9 + 5, none⟩ = some (.string ss[k].name) ∧ wx.cell? ⟨gu, k * 9 + 6, none⟩ = some (.int .i64 ss[k].arg) ∧ wx.cell? ⟨gu, k * 9 + 7, none⟩ = some (.slice ac ss[k].cond.length cc) ∧ wx.cell? ⟨gu, k * 9 + 8, none⟩ = some (.slice ae ss[k].expr.length ce)) := hid (fun wx hb => by
    have hb0 := hbB.trans (hb.mono hbB.size)
    have e : ∀ {b o : Nat} {x : Value}, b < w.heap.size → w.cell? ⟨b, o, none⟩ = some x → wx.cell? ⟨b, o, none⟩ = some x := fun hb' hx => (hb0.cell (p := ⟨_, _, none⟩) hb').trans hx
    exact ⟨(hb.block _ (Ch.blk_lt k1)).trans k1, (hb.block _ (Ch.blk_lt k2)).trans k2, e hRl c0, e hgl d0, e hgl d1, e hgl d2, e hgl d3, e hgl d4, e hgl d5, e hgl d6, e hgl d7, e hgl d8⟩)
  have HSd := hid (HSB.out wB.drew (Below.refl _ wB).drew)
  have HBB := hid hbB
  have HK1 := hid k1
  have HK2 := hid k2
  have EB1 := hid eb1
  have EB2 := hid eb2
  have lb1 : R < b1 := by omega
  have lb2 : R < b2 := by omega
  have lwB : R < wB.heap.size := Nat.lt_of_lt_of_le hRl hbB.size
  clear h hpc c0 d0 d1 d2 d3 d4 d5 d6 d7 d8 hbB k1 k2
  go_enter Tryz.func40, Tryz.ntmps40
  go_wp2
  rw [← eB, ← eb2, ← eb1]
  clear eB eb1 eb2
  refine wp_region_held_drew (S := fun wx => wx.heap[b1]? = some (.cells #[.pointer (some ⟨R, 0, none⟩)] 66) ∧ wx.heap[b2]? = some (.cells #[.int .i64 (k : Int)] 2) ∧ wx.cell? ⟨R, 0, none⟩ = some (.slice (some ⟨gu, 0, none⟩) ss.length cu) ∧ wx.cell? ⟨gu, k * 9, none⟩ = some (.int .i64 (k : Int)) ∧ wx.cell? ⟨gu, k * 9 + 1, none⟩ = some (.int .i64 ((path ss (k + 1)).length : Int)) ∧ wx.cell? ⟨gu, k * 9 + 2, none⟩ = some (.slice ak (kidsL ss k).length ck) ∧ wx.cell? ⟨gu, k * 9 + 3, none⟩ = some (.int .i64 ss[k].kind) ∧ wx.cell? ⟨gu, k * 9 + 4, none⟩ = some (.int .i64 ss[k].parent) ∧ wx.cell? ⟨gu, k * 9 + 5, none⟩ = some (.string ss[k].name) ∧ wx.cell? ⟨gu, k * 9 + 6, none⟩ = some (.int .i64 ss[k].arg) ∧ wx.cell? ⟨gu, k * 9 + 7, none⟩ = some (.slice ac ss[k].cond.length cc) ∧ wx.cell? ⟨gu, k * 9 + 8, none⟩ = some (.slice ae ss[k].expr.length ce)) (by kernel_rfl) HSd.out (fun hHeld => ?_)
  refine wpAnyH_take (i := 0) (v := .pointer (some ⟨R, 0, none⟩)) rfl (by kernel_rfl) (by kernel_rfl) (by kernel_rfl) (fun _ _ _ h => h) (Or.inl ⟨by kernel_rfl, by intro w hSw; (try dsimp only at hSw); obtain ⟨h1, h2, h3, s0, s1, s2, s3, s4, s5, s6, s7, s8⟩ := hSw; have t1 := Ch.blk_cell h1 0; have t2 := Ch.blk_cell h2 0; clear h1 h2; go_simp⟩) (by assumption) ?_
  simp only [Act.put, List.setIfInBounds_toArray, List.set_cons_zero, List.set_cons_succ]
  refine wpAnyH_take (i := 1) (v := .pointer (some ⟨R, 0, none⟩)) rfl (by kernel_rfl) (by kernel_rfl) (by kernel_rfl) (fun _ _ _ h => h) (Or.inl ⟨by kernel_rfl, by intro w hSw; (try dsimp only at hSw); go_simp⟩) (by assumption) ?_
  simp only [Act.put, List.setIfInBounds_toArray, List.set_cons_zero, List.set_cons_succ]
  refine wpAnyH_take (i := 2) (v := .pointer (some ⟨R, 0, none⟩)) rfl (by kernel_rfl) (by kernel_rfl) (by kernel_rfl) (fun _ _ _ h => h) (Or.inl ⟨by kernel_rfl, by intro w hSw; (try dsimp only at hSw); go_simp⟩) (by assumption) ?_
  simp only [Act.put, List.setIfInBounds_toArray, List.set_cons_zero, List.set_cons_succ]
  refine wpAnyH_take (i := 3) (v := .slice (some ⟨gu, 0, none⟩) ss.length cu) rfl (by kernel_rfl) (by kernel_rfl) (by kernel_rfl) (fun _ _ _ h => h) (Or.inl ⟨by kernel_rfl, by intro w hSw; (try dsimp only at hSw); obtain ⟨h1, h2, h3, s0, s1, s2, s3, s4, s5, s6, s7, s8⟩ := hSw; have t1 := Ch.blk_cell h1 0; have t2 := Ch.blk_cell h2 0; clear h1 h2; go_simp⟩) (by assumption) ?_
  simp only [Act.put, List.setIfInBounds_toArray, List.set_cons_zero, List.set_cons_succ]
  refine wpAnyH_take (i := 4) (v := .int .i64 (k : Int)) rfl (by kernel_rfl) (by kernel_rfl) (by kernel_rfl) (fun _ _ _ h => h) (Or.inl ⟨by kernel_rfl, by intro w hSw; (try dsimp only at hSw); obtain ⟨h1, h2, h3, s0, s1, s2, s3, s4, s5, s6, s7, s8⟩ := hSw; have t1 := Ch.blk_cell h1 0; have t2 := Ch.blk_cell h2 0; clear h1 h2; go_simp⟩) (by assumption) ?_
  simp only [Act.put, List.setIfInBounds_toArray, List.set_cons_zero, List.set_cons_succ]
  refine wpAnyH_take (i := 5) (v := .pointer (some ⟨gu, k * 9, none⟩)) rfl (by kernel_rfl) (by kernel_rfl) (by kernel_rfl) (fun _ _ _ h => h) (Or.inl ⟨by kernel_rfl, by intro w hSw; (try dsimp only at hSw); go_simp⟩) (by assumption) ?_
  simp only [Act.put, List.setIfInBounds_toArray, List.set_cons_zero, List.set_cons_succ]
  refine wpAnyH_take (i := 6) (v := .agg #[.int .i64 (k : Int), .int .i64 ((path ss (k + 1)).length : Int), .slice ak (kidsL ss k).length ck, .int .i64 ss[k].kind, .int .i64 ss[k].parent, .string ss[k].name, .int .i64 ss[k].arg, .slice ac ss[k].cond.length cc, .slice ae ss[k].expr.length ce]) rfl (by kernel_rfl) (by kernel_rfl) (by kernel_rfl) (fun _ _ _ h => h) (Or.inl ⟨by kernel_rfl, by intro w hSw; (try dsimp only at hSw); obtain ⟨h1, h2, h3, s0, s1, s2, s3, s4, s5, s6, s7, s8⟩ := hSw; have t1 := Ch.blk_cell h1 0; have t2 := Ch.blk_cell h2 0; clear h1 h2; go_simp⟩) (by assumption) ?_
  simp only [Act.put, List.setIfInBounds_toArray, List.set_cons_zero, List.set_cons_succ]
  refine wpAnyH_ready (rs := [7]) (by kernel_rfl) (by simp) ?_
  refine AllReadyH.cons rfl (fun K hK => ?_) AllReadyH.nil
  go_simp
  obtain ⟨wA, eA⟩ : ∃ wA, wA = (wB.alloc (.cells #[.int .i64 0, .int .i64 0, .slice none 0 0, .int .i64 0, .int .i64 0, .string ⟨#[]⟩, .int .i64 0, .slice none 0 0, .slice none 0 0] 86)).drew := ⟨_, rfl⟩
  have hbA : Below wB.heap.size wB wA := by rw [eA]; exact ((Below.refl _ wB).alloc (Nat.le_refl _) _).drew
  have hsA : wA.heap[wB.heap.size]? = some (.cells #[.int .i64 0, .int .i64 0, .slice none 0 0, .int .i64 0, .int .i64 0, .string ⟨#[]⟩, .int .i64 0, .slice none 0 0, .slice none 0 0] 86) := by rw [eA]; exact Ch.new_blk _ _
  have hSA := HSB.out wA hbA
  rw [← eA]
  clear eA
  refine hK.out _ _ hSA (fun hHeld => ?_)
  clear hK K
  try simp only [Act.put, List.setIfInBounds_toArray, List.set_cons_zero, List.set_cons_succ]
  have t0 := Ch.blk_free hsA 0
  have t1 := Ch.blk_free hsA 1
  have t2 := Ch.blk_free hsA 2
  have t3 := Ch.blk_free hsA 3
  have t4 := Ch.blk_free hsA 4
  have t5 := Ch.blk_free hsA 5
  have t6 := Ch.blk_free hsA 6
  have t7 := Ch.blk_free hsA 7
  have t8 := Ch.blk_free hsA 8
  have z0 := Ch.blk_cell hsA 0
  have z1 := Ch.blk_cell hsA 1
  have z2 := Ch.blk_cell hsA 2
  have z3 := Ch.blk_cell hsA 3
  have z4 := Ch.blk_cell hsA 4
  have z5 := Ch.blk_cell hsA 5
  have z6 := Ch.blk_cell hsA 6
  have z7 := Ch.blk_cell hsA 7
  have z8 := Ch.blk_cell hsA 8
  have lB : wB.heap.size < wA.heap.size := Ch.blk_lt hsA
  obtain ⟨wS, eS⟩ : ∃ wS, wS = ((((((((wA.setCell ⟨wB.heap.size, 0, none⟩ (.int .i64 (k : Int))).setCell ⟨wB.heap.size, 1, none⟩ (.int .i64 ((path ss (k + 1)).length : Int))).setCell ⟨wB.heap.size, 2, none⟩ (.slice ak (kidsL ss k).length ck)).setCell ⟨wB.heap.size, 3, none⟩ (.int .i64 ss[k].kind)).setCell ⟨wB.heap.size, 4, none⟩ (.int .i64 ss[k].parent)).setCell ⟨wB.heap.size, 5, none⟩ (.string ss[k].name)).setCell ⟨wB.heap.size, 6, none⟩ (.int .i64 ss[k].arg)).setCell ⟨wB.heap.size, 7, none⟩ (.slice ac ss[k].cond.length cc)).setCell ⟨wB.heap.size, 8, none⟩ (.slice ae ss[k].expr.length ce) := ⟨_, rfl⟩
  have hbS : Below wB.heap.size wB wS := by rw [eS]; exact (((((((((hbA.setCell (p := ⟨wB.heap.size, 0, none⟩) (Nat.le_refl _) _).setCell (p := ⟨wB.heap.size, 1, none⟩) (Nat.le_refl _) _).setCell (p := ⟨wB.heap.size, 2, none⟩) (Nat.le_refl _) _).setCell (p := ⟨wB.heap.size, 3, none⟩) (Nat.le_refl _) _).setCell (p := ⟨wB.heap.size, 4, none⟩) (Nat.le_refl _) _).setCell (p := ⟨wB.heap.size, 5, none⟩) (Nat.le_refl _) _).setCell (p := ⟨wB.heap.size, 6, none⟩) (Nat.le_refl _) _).setCell (p := ⟨wB.heap.size, 7, none⟩) (Nat.le_refl _) _).setCell (p := ⟨wB.heap.size, 8, none⟩) (Nat.le_refl _) _)
  have hsS : wS.heap[wB.heap.size]? = some (.cells #[.int .i64 (k : Int), .int .i64 ((path ss (k + 1)).length : Int), .slice ak (kidsL ss k).length ck, .int .i64 ss[k].kind, .int .i64 ss[k].parent, .string ss[k].name, .int .i64 ss[k].arg, .slice ac ss[k].cond.length cc, .slice ae ss[k].expr.length ce] 86) := by
    rw [eS]
    have h9 := Ch.blk_set (i := 8) (Ch.blk_set (i := 7) (Ch.blk_set (i := 6) (Ch.blk_set (i := 5) (Ch.blk_set (i := 4) (Ch.blk_set (i := 3) (Ch.blk_set (i := 2) (Ch.blk_set (i := 1) (Ch.blk_set (i := 0) (hsA) (.int .i64 (k : Int))) (.int .i64 ((path ss (k + 1)).length : Int))) (.slice ak (kidsL ss k).length ck)) (.int .i64 ss[k].kind)) (.int .i64 ss[k].parent)) (.string ss[k].name)) (.int .i64 ss[k].arg)) (.slice ac ss[k].cond.length cc)) (.slice ae ss[k].expr.length ce)
    simpa only [List.setIfInBounds_toArray, List.set_cons_zero, List.set_cons_succ] using h9
  have hSS := HSB.out wS hbS
  refine wpAnyH_ready (rs := [8]) (by kernel_rfl) (by simp) ?_
  refine AllReadyH.cons rfl (fun K hK => ?_) AllReadyH.nil
  go_simp
  rw [← eS]
  clear eS
  refine hK.out _ _ hSS (fun hHeld => ?_)
  clear hK K
  try simp only [Act.put, List.setIfInBounds_toArray, List.set_cons_zero, List.set_cons_succ]
  refine wpAnyH_done (by kernel_rfl) ?_ _
  clear hHeld
  go_wp2
  go_ret
  exact ⟨⟨b1, b2, wB.heap.size, rfl, hk, lb1, lb2, lwB, (hbS.block _ (Ch.blk_lt HK1.out)).trans HK1.out, (hbS.block _ (Ch.blk_lt HK2.out)).trans HK2.out, _, _, _, hsS, HPC.out⟩, HBB.out.trans (hbS.mono HBB.out.size)⟩
end Ku
end Go.Proofs.YtpgbjpfpgbjbeaaGreatDoor
