/- WriteProc, of the specification and of the program. -/
import Derived.Test.YtgghigfflpbjiaaGreatDoorJWriteProc22
import Derived.Test.YtgghigfflpbjiaaGreatDoorJWriteProc25
namespace Go.Proofs.YtgghigfflpbjiaaGreatDoor
open Go.RowKit
set_option linter.unusedVariables false
namespace Tf
open Ex (hid)
open St (StepD)
open Tr (ElemD ElemsAt fault SmallE OkE)
open Pf (Rul pFault kept_cell kept_free setB of_p)
def wpC (ss : List StepD) : Int := if treeC ss = 0 then Tr.wcode (treeE ss) else treeC ss
def wpT (ss : List StepD) : ByteArray := if treeC ss = 0 then ⟨(Tr.wtext (treeE ss)).toArray⟩ else ⟨#[]⟩
theorem wpC_ok {ss : List StepD} (h : treeC ss = 0) : wpC ss = Tr.wcode (treeE ss) ∧ wpT ss = ⟨(Tr.wtext (treeE ss)).toArray⟩ := ⟨if_pos h, if_pos h⟩
theorem wpC_bad {ss : List StepD} (h : treeC ss ≠ 0) : wpC ss = treeC ss ∧ wpT ss = ⟨#[]⟩ := ⟨if_neg h, if_neg h⟩
theorem treeE_two (ss : List StepD) : treeE ss = [] ∨ (pFault ss = 0 ∧ treeE ss = treeL ss) := by
  unfold treeE
  by_cases h : treeC ss = 0
  · rw [if_pos h]
    by_cases hp : pFault ss = 0
    · exact .inr ⟨hp, rfl⟩
    · rw [treeC_p hp] at h; exact absurd h hp
  · rw [if_neg h]; exact .inl rfl
theorem treeE_sm (ss : List StepD) : SmallE 1048576 (treeE ss) := by
  rcases treeE_two ss with h | ⟨hp, h⟩
  · rw [h]; exact ⟨by simp, fun e he => by simp at he⟩
  · rw [h]; exact tree_smallE hp
theorem treeE_ok (ss : List StepD) : OkE (treeE ss) := by
  rcases treeE_two ss with h | ⟨hp, h⟩
  · rw [h]; intro e he; simp at he
  · rw [h]; exact tree_okE hp
set_option maxRecDepth 100000 in
set_option maxHeartbeats 4000000 in
theorem specWriteProc (B : Nat) (ss : List StepD) (v : Value) (w : World) (hsm : St.Small 1048576 ss) (ha : St.At w B v ss) :
    Calls Tryz.prog 14 #[v] w fun e w' => e = .returned (.agg #[.int .i64 (wpC ss), .string (wpT ss)]) ∧ Below w.heap.size w w' := by
  obtain ⟨a, cap, rfl⟩ := ha.slice
  have HB0 : Hid (Below w.heap.size w (w.alloc (.cells #[.int .i64 0, .string ⟨#[]⟩] 36))) := hid ((Below.refl _ w).alloc (Nat.le_refl _) _)
  have HF := hid (specTreeOf B ss _ _ hsm (ha.below HB0.out))
  have HWT := hid (fun u wx (hb : Below w.heap.size w wx) (hu : ElemsAt wx 0 u (treeE ss)) => Tr.specWriteTree 0 (treeE ss) u wx (treeE_sm ss) (treeE_ok ss) hu)
  have HC := hid (wpC_ok (ss := ss))
  have HCB := hid (wpC_bad (ss := ss))
  generalize hcc : treeC ss = cc at *
  generalize hee : treeE ss = es at *
  clear ha hsm  hcc hee
  go_enter Tryz.func14, Tryz.ntmps14
  go_wp2_with fail
  refine HF.out.mono ?_
  rintro e w1 ⟨⟨u, rfl, ho1⟩, hb1⟩
  obtain ⟨au, cu, rfl⟩ := ho1.slice
  have HE1 := hid (ho1.elems.mono (Nat.zero_le _))
  have HB1 : Hid (Below w.heap.size w w1) := hid (HB0.out.trans (hb1.mono HB0.out.size))
  have hz : (w.alloc (.cells #[.int .i64 0, .string ⟨#[]⟩] 36)).heap.size = w.heap.size + 1 := by simp
  have l1 : w.heap.size + 1 ≤ w1.heap.size := by have := hb1.size; omega
  have u0 := kept_cell hb1 (b := w.heap.size) (o := 0) (v := .int .i64 0) (by omega) (by go_simp)
  have u1 := kept_cell hb1 (b := w.heap.size) (o := 1) (v := .string ⟨#[]⟩) (by omega) (by go_simp)
  have x0 := kept_free hb1 (b := w.heap.size) (o := 0) (by omega) (by go_simp)
  have x1 := kept_free hb1 (b := w.heap.size) (o := 1) (by omega) (by go_simp)
  have hx2 : Below w1.heap.size w1 (w1.alloc (.cells #[.int .i64 cc, .int .i64 0, .slice au es.length cu] 26)) := (Below.refl _ w1).alloc (Nat.le_refl _) _
  have v0 := kept_cell hx2 (by omega) u0
  have v1 := kept_cell hx2 (by omega) u1
  have y0 := kept_free hx2 (by omega) x0
  have y1 := kept_free hx2 (by omega) x1
  have t0 : (w1.alloc (.cells #[.int .i64 cc, .int .i64 0, .slice au es.length cu] 26)).cell? ⟨w1.heap.size, 0, none⟩ = some (.int .i64 cc) := by go_simp
  have t2 : (w1.alloc (.cells #[.int .i64 cc, .int .i64 0, .slice au es.length cu] 26)).cell? ⟨w1.heap.size, 2, none⟩ = some (.slice au es.length cu) := by go_simp
  have HB2 := hid (HB1.out.trans (hx2.mono HB1.out.size))
  have HE2 := hid (HE1.out.below hx2)
  have l2 : w.heap.size < (w1.alloc (.cells #[.int .i64 cc, .int .i64 0, .slice au es.length cu] 26)).heap.size := by simp; omega
  clear u0 u1 x0 x1 hx2 HE1 HB1 HF hz ho1 hb1
  by_cases hc : cc = 0
  · have HCK := hid (HC.out hc)
    have b1 : (cc != 0) = false := by simp [hc]
    have HW2 := hid (HWT.out _ _ HB2.out HE2.out)
    generalize hcw : Tr.wcode es = cw at *
    generalize htw : Tr.wtext es = tw at *
    clear hc HC HCB hcw htw
    go_wp2_with fail
    generalize w1.alloc (.cells #[.int .i64 cc, .int .i64 0, .slice au es.length cu] 26) = w2 at *
    refine HW2.out.mono ?_
    rintro e w3 ⟨rfl, hb3⟩
    have r0 := kept_cell hb3 l2 v0
    have r1 := kept_cell hb3 l2 v1
    have s0 := kept_free hb3 l2 y0
    have s1 := kept_free hb3 l2 y1
    have HB3 := hid (HB2.out.trans (hb3.mono HB2.out.size))
    clear hb3 HW2
    go_wp2
    exact bodyPost_ret (v := .agg #[.int .i64 cw, .string ⟨tw.toArray⟩]) (by simp [results, Tryz.results14, go_sem, r0, r1]) rfl ⟨by rw [HCK.out.1, HCK.out.2], setB (setB HB3.out (Nat.le_refl _) _) (Nat.le_refl _) _⟩
  · have HCK := hid (HCB.out hc)
    have b1 : (cc != 0) = true := bne_iff_ne.2 hc
    clear hc HC HCB
    go_wp2
    exact bodyPost_ret (v := .agg #[.int .i64 cc, .string ⟨#[]⟩]) (by simp [results, Tryz.results14, go_sem, v0, v1]) rfl ⟨by rw [HCK.out.1, HCK.out.2], setB (setB HB2.out (Nat.le_refl _) _) (Nat.le_refl _) _⟩
set_option maxRecDepth 100000 in
set_option maxHeartbeats 4000000 in
theorem implWriteProc (ss : List StepD) (v : Value) (w : World) (hsm : St.Small 1048576 ss) (ha : St.At w 0 v ss) (hr : Rul w) (ht : Ex.Tab w) (he : Esc.Ent w) (hw : 2 < w.heap.size) :
    Calls Tryz.prog 15 #[v] w fun e w' => e = .returned (.agg #[.int .i64 (wpC ss), .string (wpT ss)]) ∧ Below w.heap.size w w' := by
  obtain ⟨a, cap, rfl⟩ := ha.slice
  have HB0 : Hid (Below w.heap.size w (w.alloc (.cells #[.int .i64 0, .string ⟨#[]⟩] 36))) := hid ((Below.refl _ w).alloc (Nat.le_refl _) _)
  have hgl := hr.lt
  have HEN := hid he
  have HF := hid (implTreeOf ss _ _ hsm (ha.below HB0.out) (hr.below HB0.out hgl) (ht.below HB0.out) (Esc.Ent.below he HB0.out hw) (by have := HB0.out.size; omega))
  have HWT := hid (fun u wx (hb : Below w.heap.size w wx) (hu : ElemsAt wx 0 u (treeE ss)) => Tr.implWriteTree (treeE ss) u wx (treeE_sm ss) (treeE_ok ss) hu (Esc.Ent.below HEN.out hb hw) (by have := hb.size; omega))
  have HC := hid (wpC_ok (ss := ss))
  have HCB := hid (wpC_bad (ss := ss))
  generalize hcc : treeC ss = cc at *
  generalize hee : treeE ss = es at *
  clear ha hsm hr ht he hcc hee
  go_enter Tryz.func15, Tryz.ntmps15
  go_wp2_with fail
  refine HF.out.mono ?_
  rintro e w1 ⟨⟨u, rfl, ho1⟩, hb1⟩
  obtain ⟨au, cu, rfl⟩ := ho1.slice
  have HE1 := hid (ho1.elems.mono (Nat.zero_le _))
  have HB1 : Hid (Below w.heap.size w w1) := hid (HB0.out.trans (hb1.mono HB0.out.size))
  have hz : (w.alloc (.cells #[.int .i64 0, .string ⟨#[]⟩] 36)).heap.size = w.heap.size + 1 := by simp
  have l1 : w.heap.size + 1 ≤ w1.heap.size := by have := hb1.size; omega
  have u0 := kept_cell hb1 (b := w.heap.size) (o := 0) (v := .int .i64 0) (by omega) (by go_simp)
  have u1 := kept_cell hb1 (b := w.heap.size) (o := 1) (v := .string ⟨#[]⟩) (by omega) (by go_simp)
  have x0 := kept_free hb1 (b := w.heap.size) (o := 0) (by omega) (by go_simp)
  have x1 := kept_free hb1 (b := w.heap.size) (o := 1) (by omega) (by go_simp)
  have hx2 : Below w1.heap.size w1 (w1.alloc (.cells #[.int .i64 cc, .int .i64 0, .slice au es.length cu] 26)) := (Below.refl _ w1).alloc (Nat.le_refl _) _
  have v0 := kept_cell hx2 (by omega) u0
  have v1 := kept_cell hx2 (by omega) u1
  have y0 := kept_free hx2 (by omega) x0
  have y1 := kept_free hx2 (by omega) x1
  have t0 : (w1.alloc (.cells #[.int .i64 cc, .int .i64 0, .slice au es.length cu] 26)).cell? ⟨w1.heap.size, 0, none⟩ = some (.int .i64 cc) := by go_simp
  have t2 : (w1.alloc (.cells #[.int .i64 cc, .int .i64 0, .slice au es.length cu] 26)).cell? ⟨w1.heap.size, 2, none⟩ = some (.slice au es.length cu) := by go_simp
  have HB2 := hid (HB1.out.trans (hx2.mono HB1.out.size))
  have HE2 := hid (HE1.out.below hx2)
  have l2 : w.heap.size < (w1.alloc (.cells #[.int .i64 cc, .int .i64 0, .slice au es.length cu] 26)).heap.size := by simp; omega
  clear u0 u1 x0 x1 hx2 HE1 HB1 HF hz ho1 hb1
  by_cases hc : cc = 0
  · have HCK := hid (HC.out hc)
    have b1 : (cc != 0) = false := by simp [hc]
    have HW2 := hid (HWT.out _ _ HB2.out HE2.out)
    generalize hcw : Tr.wcode es = cw at *
    generalize htw : Tr.wtext es = tw at *
    clear hc HC HCB hcw htw
    go_wp2_with fail
    generalize w1.alloc (.cells #[.int .i64 cc, .int .i64 0, .slice au es.length cu] 26) = w2 at *
    refine HW2.out.mono ?_
    rintro e w3 ⟨rfl, hb3⟩
    have r0 := kept_cell hb3 l2 v0
    have r1 := kept_cell hb3 l2 v1
    have s0 := kept_free hb3 l2 y0
    have s1 := kept_free hb3 l2 y1
    have HB3 := hid (HB2.out.trans (hb3.mono HB2.out.size))
    clear hb3 HW2
    go_wp2
    exact bodyPost_ret (v := .agg #[.int .i64 cw, .string ⟨tw.toArray⟩]) (by simp [results, Tryz.results15, go_sem, r0, r1]) rfl ⟨by rw [HCK.out.1, HCK.out.2], setB (setB HB3.out (Nat.le_refl _) _) (Nat.le_refl _) _⟩
  · have HCK := hid (HCB.out hc)
    have b1 : (cc != 0) = true := bne_iff_ne.2 hc
    clear hc HC HCB
    go_wp2
    exact bodyPost_ret (v := .agg #[.int .i64 cc, .string ⟨#[]⟩]) (by simp [results, Tryz.results15, go_sem, v0, v1]) rfl ⟨by rw [HCK.out.1, HCK.out.2], setB (setB HB2.out (Nat.le_refl _) _) (Nat.le_refl _) _⟩
end Tf
end Go.Proofs.YtgghigfflpbjiaaGreatDoor
