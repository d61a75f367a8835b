/- Whatever list of nodes and list of numbers are handed in, EvalExpr answers as the specification's EvalExpr does, in code and in value, and both lists read afterwards as before. No condition. -/
import Derived.Test.YtalplnbkijmahaiRows
import Derived.ShutString
import Derived.ChangeOld
import Derived.Test.YtalplnbkijmahaiNd
import Derived.Test.YtalplnbkijmahaiNu
import Derived.Test.YtalplnbkijmahaiExJ
import Derived.Test.YtalplnbkijmahaiImX
namespace Go.Proofs.Ytalplnbkijmahai
open Go.ChangeShapes Go.WideShapes Go.ChangeAt Go.RowKit
set_option linter.unusedVariables false
namespace EvalExprL
open Ex
open Nd (NodeD)
set_option maxRecDepth 100000 in
set_option maxHeartbeats 400000 in
theorem eqRes (c x : Int) (w : World) :
    Calls Try.prog 11 #[.agg #[.int .i64 c, .int .i64 x], .agg #[.int .i64 c, .int .i64 x]] w fun e w' => e = .returned (.bool true) ∧ Below w.heap.size w w' := by
  have h1 : (c != c) = false := by simp
  have h2 : (x != x) = false := by simp
  go_enter Try.func11, Try.ntmps11
  go_wp2
  go_ret
  exact ⟨rfl, ((Below.refl _ w).alloc (Nat.le_refl _) _).alloc (by simp) _⟩
set_option maxRecDepth 100000 in
set_option maxHeartbeats 2000000 in
theorem walk (l : List NodeD) (m : List Int) (v1 v2 : Value) (w0 : World) (hl : l.length ≤ maxLen) (hm : m.length ≤ maxLen) (h1 : Nd.At w0 0 v1 l) (h2 : Nu.At w0 0 v2 m) :
    Calls Try.prog 4 #[v1, v2] w0 fun e w' => e = .returned (.bool true) ∧ Below w0.heap.size w0 w' := by
  have HZ1 := hid (Nd.szS l v1 1048576 0 w0 (by omega) (by omega) hl h1)
  obtain ⟨a1, c1, rfl⟩ := h1.slice
  obtain ⟨a2, c2, rfl⟩ := h2.slice
  have H1 := hid h1
  have H2 := hid h2
  unfold maxLen at hm
  clear h1 h2 hl
  by_cases q0 : (1048576 : Int) < (m.length : Int)
  · go_enter Try.func4, Try.ntmps4
    go_wp2
    go_ret
    exact ⟨rfl, Below.refl _ _⟩
  have hmn : m.length ≤ 1048576 := by omega
  go_enter Try.func4, Try.ntmps4
  go_wp2_with fail
  refine HZ1.out.mono ?_
  rintro e w ⟨⟨r1, rfl, r1a, r1b, r1c⟩, rfl⟩
  by_cases q1 : r1 < 0
  · go_wp2
    go_ret
    exact ⟨rfl, Below.refl _ _⟩
  have hln : l.length ≤ 1048576 := by have := r1c (by omega); omega
  clear r1c HZ1
  have B1 : Below w.heap.size w w := Below.refl _ _
  have HT1 := hid (fun w' (hb : Below w.heap.size w w') => Nd.toS 0 l _ w' hln (H1.out.below hb))
  have HT2 := hid (fun w' (hb : Below w.heap.size w w') => Nu.toS 0 m _ w' hmn (H2.out.below hb))
  clear H1 H2
  go_wp2_with fail
  refine (HT1.out _ B1).mono ?_
  rintro e w3 ⟨u1, rfl, hu1, hb3⟩
  obtain ⟨x1, d1, rfl⟩ := hu1.slice
  have B3 := B1.trans (hb3.mono B1.size)
  have U1 := hid hu1
  clear hu1
  go_wp2_with fail
  refine (HT2.out _ B3).mono ?_
  rintro e w4 ⟨u2, rfl, hu2, hb4⟩
  obtain ⟨x2, d2, rfl⟩ := hu2.slice
  have B4 := B3.trans (hb4.mono B3.size)
  have U2 := hid hu2
  have U14 := hid (U1.out.below hb4)
  clear hu2 U1
  go_wp2_with fail
  refine (specEvalExpr _ _ l m _ _ _ hln hmn U14.out U2.out).mono ?_
  rintro e w5 ⟨rfl, hb5⟩
  have B5 := B4.trans (hb5.mono B4.size)
  generalize hcc : evalCode l m = cc at *
  generalize htt : evalVal l m = tt at *
  have HCC := hid hcc
  have HTT := hid htt
  clear U14 U2 hb3 hb4 hb5 B1 B3 B4 hcc htt
  go_wp2_with fail
  have B5' : Below w.heap.size w (w5.alloc (.cells #[.int .i64 cc, .int .i64 tt] 25)) := B5.alloc B5.size _
  refine (HT1.out _ B5').mono ?_
  rintro e w6 ⟨u3, rfl, hu3, hb6⟩
  obtain ⟨x3, d3, rfl⟩ := hu3.slice
  have B6 := B5'.trans (hb6.mono B5'.size)
  have U3 := hid hu3
  simp only [World.size_alloc] at hb6
  have l6 : w5.heap.size < w6.heap.size := by have := hb6.size; simp at this; omega
  have r0 := kept_cell hb6 (b := w5.heap.size) (o := 0) (v := .int .i64 cc) (by omega) (by go_simp)
  have r1' := kept_cell hb6 (b := w5.heap.size) (o := 1) (v := .int .i64 tt) (by omega) (by go_simp)
  clear hu3
  go_wp2_with fail
  refine (HT2.out _ B6).mono ?_
  rintro e w7 ⟨u4, rfl, hu4, hb7⟩
  obtain ⟨x4, d4, rfl⟩ := hu4.slice
  have B7 := B6.trans (hb7.mono B6.size)
  have U4 := hid hu4
  have U37 := hid (U3.out.below hb7)
  have l7 : w5.heap.size < w7.heap.size := by have := hb7.size; omega
  have r70 := kept_cell hb7 (by omega) r0
  have r71 := kept_cell hb7 (by omega) r1'
  clear hu4 U3 r0 r1' hb6 hb7
  go_wp2_with fail
  refine (implEvalExpr _ _ l m _ _ _ hln hmn U37.out U4.out).mono ?_
  rintro e w8 ⟨rfl, hb8⟩
  rw [HCC.out, HTT.out]
  have B8 := B7.trans (hb8.mono B7.size)
  have l8 : w5.heap.size < w8.heap.size := by have := hb8.size; omega
  have s0 := kept_cell hb8 (by omega) r70
  have s1 := kept_cell hb8 (by omega) r71
  have U38 := hid (U37.out.below hb8)
  have U48 := hid (U4.out.below hb8)
  clear U37 U4 hb8 r70 r71
  go_wp2_with fail
  have B8' : Below w.heap.size w (w8.alloc (.cells #[.int .i64 cc, .int .i64 tt] 25)) := B8.alloc B8.size _
  have hx8 : Below w8.heap.size w8 (w8.alloc (.cells #[.int .i64 cc, .int .i64 tt] 25)) := (Below.refl _ w8).alloc (Nat.le_refl _) _
  refine (eqRes cc tt _).mono ?_
  rintro e w9 ⟨rfl, hb9⟩
  have B9 := B8'.trans (hb9.mono B8'.size)
  have U39 := hid ((U38.out.below hx8).below hb9)
  have U49 := hid ((U48.out.below hx8).below hb9)
  clear U38 U48 hb9
  go_wp2_with fail
  refine (HT1.out _ B9).mono ?_
  rintro e w10 ⟨u5, rfl, hu5, hb10⟩
  obtain ⟨x5, d5, rfl⟩ := hu5.slice
  have B10 := B9.trans (hb10.mono B9.size)
  have U5 := hid hu5
  have U410 := hid (U49.out.below hb10)
  clear hu5 U49
  go_wp2_with fail
  refine (Nd.eqS _ _ l _ _ _ hln (U39.out.below hb10) U5.out).mono ?_
  rintro e w11 ⟨rfl, hb11⟩
  have B11 := B10.trans (hb11.mono B10.size)
  have U411 := hid (U410.out.below hb11)
  clear U410 U39 U5 hb10 hb11
  go_wp2_with fail
  refine (HT2.out _ B11).mono ?_
  rintro e w12 ⟨u6, rfl, hu6, hb12⟩
  obtain ⟨x6, d6, rfl⟩ := hu6.slice
  have B12 := B11.trans (hb12.mono B11.size)
  have U6 := hid hu6
  clear hu6
  go_wp2_with fail
  refine (Nu.eqS _ _ m _ _ _ hmn (U411.out.below hb12) U6.out).mono ?_
  rintro e w13 ⟨rfl, hb13⟩
  have B13 := B12.trans (hb13.mono B12.size)
  go_wp2
  go_ret
  exact ⟨rfl, B13⟩
theorem own : ownKnob Try.prog.godebug = none := by kernel_rfl
theorem laidOut : laidOutB Try.prog = true := by kernel_rfl
set_option maxRecDepth 100000 in
theorem lifted (os : Os) (started : os.Started) (H : Type) (enc : TypeId × Value → H) :
    ReturnsInHanded {} Try.checked os 4 .any (Rows.fnExactEvalExprSpec.pre6 enc Try.prog Try.f4 Rows.fnExactEvalExprRow.domain false) (Rows.fnExactEvalExprSpec.post enc Try.prog Try.f4 false true false false) := by
  refine returnsInHanded_of_change (C := Try.checked) own started (by kernel_rfl) Try.func4
    (ChangeSpec.witness6 (enc := enc) (C := Try.checked) false ⟨#[], #[.slice none 0 0, .slice none 0 0], []⟩ 8 (by kernel_rfl) (by kernel_rfl) (by kernel_rfl) (by kernel_rfl)) ?_
  intro W base args ds gs before hval0 hW hcnd _
  have hval : ∀ (j : Nat) t v, Try.f4.params[j]? = some t → args[j]? = some v → Value.okWide Try.prog W .any base t v := hval0
  have hW' := hW
  obtain ⟨p, q, hA0, hV, rfl, hfz, hnd⟩ := hW
  have hA : DataW.TrodAll enc Try.prog W 0 (fun _ => true) true Try.f4.params.toList args.toList ds p := hA0
  rw [Try.params4] at hA hval
  obtain ⟨v0, vs0, d0, ds0, p0, q0, hargs, rfl, rfl, h0, r0⟩ := trodAll_cons hA
  obtain ⟨v1, vs1, d1, ds1, p1, q1, rfl, rfl, rfl, h1, r1⟩ := trodAll_cons r0
  obtain ⟨rfl, rfl, rfl⟩ := trodAll_nil r1
  obtain rfl : args = #[v0, v1] := by cases args; simp_all
  obtain ⟨rfl, rfl⟩ := trodVars_none hV
  obtain ⟨a0, len0, cap0, rfl⟩ := okWide_slice Try.underlying22 (hval 0 22 v0 rfl rfl)
  have k0 := h0
  have lt0 : ∀ x ∈ p0, x.block < W.heap.size := by obtain ⟨m, hm⟩ := k0; exact DataW.trod_lt m _ _ _ hm
  obtain ⟨l0, ga0, gc0⟩ : ∃ es, Nd.At W 0 (.slice a0 len0 cap0) es ∧ es.length ≤ maxLen := by
    obtain ⟨fuel, hf⟩ := h0
    exact Nd.open_all (by simpa [Value.cells] using hf)
  obtain ⟨a1, len1, cap1, rfl⟩ := okWide_slice Try.underlying32 (hval 1 32 v1 rfl rfl)
  have k1 := h1
  have lt1 : ∀ x ∈ p1, x.block < W.heap.size := by obtain ⟨m, hm⟩ := k1; exact DataW.trod_lt m _ _ _ hm
  obtain ⟨l1, ga1, gc1⟩ : ∃ es, Nu.At W 0 (.slice a1 len1 cap1) es ∧ es.length ≤ maxLen := by
    obtain ⟨fuel, hf⟩ := h1
    exact Nu.open_all (by simpa [Value.cells] using hf)
  clear hA0 hval0
  refine (walk l0 l1 _ _ W gc0 gc1 ga0 ga1).mono fun e W' ⟨he, bel⟩ => ?_
  subst he
  exact ⟨_, rfl, _, _, _, [], _, [], hW', trodAll_mk1 (shut_bool Try.underlying4 _), (trodAll_cons_mk (Below.trod laidOut (by kernel_rfl) (of_decide_eq_true (by kernel_rfl)) k0 bel lt0) (trodAll_cons_mk (Below.trod laidOut (by kernel_rfl) (of_decide_eq_true (by kernel_rfl)) k1 bel lt1) trodAll_mk0)), rfl, bel.frame _, fun h => by cases h⟩
theorem over : Rows.fnExactEvalExprRow.holds Try.pinned (OpenSpec.ofChange Rows.fnExactEvalExprSpec) :=
  OpenClaim.holds_of_wide 4 Try.f4 rfl rfl rfl rfl rfl rfl rfl ⟨rfl, rfl, rfl, rfl, rfl⟩ rfl rfl rfl rfl rfl (by kernel_rfl) Try.func4 (by kernel_rfl)
    (of_decide_eq_true (by kernel_rfl)) (by unfold Func.isWrapper; first | (rw [if_pos (by decide +kernel)]; kernel_rfl) | (rw [if_neg (by decide +kernel)]; exact ⟨rfl, rfl⟩))
    (fun os started H enc _ => lifted os started H enc)
end EvalExprL
theorem fnExactEvalExpr_holds : Rows.FnExactEvalExprSaid := EvalExprL.over
#print axioms fnExactEvalExpr_holds
end Go.Proofs.Ytalplnbkijmahai
