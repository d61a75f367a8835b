/- The specification's TreeOf. -/
import Derived.Test.YtgghigfflpbjiaaGreatDoorTfG
import Derived.Test.YtgghigfflpbjiaaGreatDoorPsC
import Derived.Test.YtgghigfflpbjiaaGreatDoorTrT
namespace Go.Proofs.YtgghigfflpbjiaaGreatDoor
open Go.RowKit
set_option linter.unusedVariables false
namespace Tf
open Ex (hid inR eFault str str_size textOf)
open Nd (NodeD)
open St (StepD)
open Tr (AttrD ElemD AttrsAt ElemsAt fault)
open Pf
open Nst (own)
set_option maxRecDepth 100000 in
set_option maxHeartbeats 8000000 in
theorem specTreeOf (B : Nat) (ss : List StepD) (v : Value) (w : World) (hsm : St.Small 1048576 ss) (ha : St.At w B v ss) :
    Calls Tryz.prog 6 #[v] w fun e w' => (∃ u, e = .returned (.agg #[.int .i64 (treeC ss), .int .i64 0, u]) ∧ EOwn w' (w.heap.size + 1) u (treeE ss)) ∧ Below w.heap.size w w' := by
  obtain ⟨a, cap, rfl⟩ := ha.slice
  have HB0 : Hid (Below w.heap.size w (w.alloc (.cells #[.int .i64 0, .int .i64 0, .slice none 0 0] 26))) := hid ((Below.refl _ w).alloc (Nat.le_refl _) _)
  have HF := hid (Pf.specFault B ss _ _ hsm (ha.below HB0.out))
  have HA := hid ha
  have HS := hid hsm
  clear ha hsm
  go_enter Tryz.func6, Tryz.ntmps6
  go_wp2_with fail
  refine HF.out.mono ?_
  rintro e w1 ⟨rfl, hb1⟩
  have B1 : Below w.heap.size w w1 := HB0.out.trans (hb1.mono HB0.out.size)
  have hz : (w.alloc (.cells #[.int .i64 0, .int .i64 0, .slice none 0 0] 26)).heap.size = w.heap.size + 1 := by simp
  have l1 : w.heap.size + 1 ≤ w1.heap.size := by have := hb1.size; omega
  have lw1 : w.heap.size < w1.heap.size := by omega
  have u0 := kept_cell hb1 (b := w.heap.size) (o := 0) (v := .int .i64 0) (by omega) (by go_simp)
  have u1 := kept_cell hb1 (b := w.heap.size) (o := 1) (v := .int .i64 0) (by omega) (by go_simp)
  have u2 := kept_cell hb1 (b := w.heap.size) (o := 2) (v := .slice none 0 0) (by omega) (by go_simp)
  have x0 := kept_free hb1 (b := w.heap.size) (o := 0) (by omega) (by go_simp)
  have x1 := kept_free hb1 (b := w.heap.size) (o := 1) (by omega) (by go_simp)
  have x2 := kept_free hb1 (b := w.heap.size) (o := 2) (by omega) (by go_simp)
  have HB1 := hid B1
  clear hz HF hb1 B1
  by_cases hp : pFault ss = 0
  · have HTL := hid (specL5Tree B ss _ w1 hp HS.out (HA.out.below HB1.out))
    have HTC := hid (treeC_f hp)
    have HLO := hid (fun (h : ss.any long = true) => (treeC_f hp).trans ((fault_tree hp).trans (if_pos h)))
    have HSM := hid (tree_smallE hp)
    have HOK := hid (tree_okE hp)
    have b1 : (pFault ss != 0) = false := by simp [hp]
    generalize hpf : pFault ss = pf at *
    clear hpf hp
    go_wp2_with fail
    refine HTL.out.mono ?_
    rintro e w2 ⟨⟨u, b, rfl, hcase⟩, hb2⟩
    have e0 := kept_cell hb2 lw1 u0
    have e1 := kept_cell hb2 lw1 u1
    have e2 := kept_cell hb2 lw1 u2
    have f0 := kept_free hb2 lw1 x0
    have f1 := kept_free hb2 lw1 x1
    have f2 := kept_free hb2 lw1 x2
    have lw2 : w.heap.size < w2.heap.size := Nat.lt_of_lt_of_le lw1 hb2.size
    have HB2 := hid (HB1.out.trans (hb2.mono HB1.out.size))
    clear HTL hb2
    rcases hcase with ⟨rfl, hany⟩ | ⟨rfl, hany, hown⟩
    · have HT2 := hid (HLO.out hany)
      have HTE : Hid (treeE ss = []) := hid (by unfold treeE; rw [if_neg (by rw [HT2.out]; omega)])
      clear hany
      go_wp2
      refine bodyPost_ret (v := .agg #[.int .i64 2, .int .i64 0, .slice none 0 0]) (by simp [results, Tryz.results6, go_sem, e0, e1, e2]) rfl ⟨⟨_, ret3 HT2.out.symm, ?_⟩, setB (setB (setB HB2.out (Nat.le_refl _) _) (Nat.le_refl _) _) (Nat.le_refl _) _⟩
      rw [HTE.out]
      exact EOwn.nil _ _
    · obtain ⟨au, cu, rfl⟩ := hown.slice
      have HOW := hid hown
      have HFA := hid (Tr.specFault1 w1.heap.size (treeL ss) _ w2 (by have := HSM.out.1; omega) HOK.out hown.elems)
      clear hown hany
      go_wp2_with fail
      refine HFA.out.mono ?_
      rintro e w5 ⟨rfl, hb5⟩
      have r0 := kept_cell hb5 lw2 e0
      have r1 := kept_cell hb5 lw2 e1
      have r2 := kept_cell hb5 lw2 e2
      have t0 := kept_free hb5 lw2 f0
      have t1 := kept_free hb5 lw2 f1
      have t2 := kept_free hb5 lw2 f2
      have HB5 := hid (HB2.out.trans (hb5.mono HB2.out.size))
      have HO5 := hid ((HOW.out.below hb5).mono l1)
      clear HFA hb5 e0 e1 e2 f0 f1 f2 HOW
      by_cases hf : fault (treeL ss) = 0
      · have HTE : Hid (treeE ss = treeL ss) := hid (by unfold treeE; rw [if_pos (HTC.out.trans hf)])
        have HT0 : Hid (treeC ss = 0) := hid (HTC.out.trans hf)
        have b2 : (fault (treeL ss) != 0) = false := by simp [hf]
        generalize hff : fault (treeL ss) = ff at *
        clear hff hf
        go_wp2
        refine bodyPost_ret (v := .agg #[.int .i64 0, .int .i64 0, .slice au (treeL ss).length cu]) (by simp [results, Tryz.results6, go_sem, r0, r1, r2]) rfl ⟨⟨_, ret3 HT0.out.symm, ?_⟩, setB (setB (setB HB5.out (Nat.le_refl _) _) (Nat.le_refl _) _) (Nat.le_refl _) _⟩
        rw [HTE.out]
        exact HO5.out.keep (fun b h1 _ => heap_set3 (by omega))
      · have HTE : Hid (treeE ss = []) := hid (by unfold treeE; rw [if_neg (by rw [HTC.out]; exact hf)])
        have b2 : (fault (treeL ss) != 0) = true := by simpa using hf
        generalize hff : fault (treeL ss) = ff at *
        clear hff hf
        go_wp2
        refine bodyPost_ret (v := .agg #[.int .i64 ff, .int .i64 0, .slice none 0 0]) (by simp [results, Tryz.results6, go_sem, r0, r1, r2]) rfl ⟨⟨_, ret3 HTC.out.symm, ?_⟩, setB (setB (setB HB5.out (Nat.le_refl _) _) (Nat.le_refl _) _) (Nat.le_refl _) _⟩
        rw [HTE.out]
        exact EOwn.nil _ _
  · have HTC := hid (treeC_p hp)
    have HTE : Hid (treeE ss = []) := hid (by unfold treeE; rw [if_neg (by rw [HTC.out]; exact hp)])
    have b1 : (pFault ss != 0) = true := by simpa using hp
    generalize hpf : pFault ss = pf at *
    clear hpf hp
    go_wp2
    refine bodyPost_ret (v := .agg #[.int .i64 pf, .int .i64 0, .slice none 0 0]) (by simp [results, Tryz.results6, go_sem, u0, u1, u2]) rfl ⟨⟨_, ret3 HTC.out.symm, ?_⟩, setB (setB (setB HB1.out (Nat.le_refl _) _) (Nat.le_refl _) _) (Nat.le_refl _) _⟩
    rw [HTE.out]
    exact EOwn.nil _ _
end Tf
end Go.Proofs.YtgghigfflpbjiaaGreatDoor
