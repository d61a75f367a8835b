/- Whatever list of nodes is handed in, ExprFault answers as the specification's ExprFault does, and the list reads afterwards as before. No condition. -/
import Derived.Test.YtalplnbkijmahahRows
import Derived.ShutString
import Derived.ChangeOld
import Derived.Test.YtalplnbkijmahahNd
import Derived.Test.YtalplnbkijmahahExD
import Derived.Test.YtalplnbkijmahahImE
namespace Go.Proofs.Ytalplnbkijmahah
open Go.ChangeShapes Go.WideShapes Go.ChangeAt Go.RowKit
set_option linter.unusedVariables false
namespace ExprFaultL
open Ex
open Nd (NodeD)
set_option maxRecDepth 100000 in
set_option maxHeartbeats 2000000 in
theorem walk (l : List NodeD) (v1 : Value) (w : World) (hl : l.length ≤ maxLen) (h1 : Nd.At w 0 v1 l) :
    Calls Try.prog 4 #[v1] w fun e w' => e = .returned (.bool true) ∧ Below w.heap.size w w' := by
  have HZ1 := hid (Nd.szS l v1 1048576 0 w (by omega) (by omega) hl h1)
  obtain ⟨a1, c1, rfl⟩ := h1.slice
  have H1 := hid h1
  clear h1 hl
  go_enter Try.func4, Try.ntmps4
  go_wp2_with fail
  refine HZ1.out.mono ?_
  rintro e w1 ⟨⟨r1, rfl, r1a, r1b, r1c⟩, rfl⟩
  by_cases q1 : r1 < 0
  · go_wp2
    go_ret
    exact ⟨rfl, Below.refl _ _⟩
  have hln : l.length ≤ 1048576 := by have := r1c (by omega); omega
  clear r1c HZ1
  have B1 : Below w1.heap.size w1 w1 := Below.refl _ _
  have HT1 := hid (fun w' (hb : Below w1.heap.size w1 w') => Nd.toS 0 l _ w' hln (H1.out.below hb))
  clear H1
  go_wp2_with fail
  refine (HT1.out _ B1).mono ?_
  rintro e w3 ⟨u1, rfl, hu1, hb3⟩
  obtain ⟨x1, d1, rfl⟩ := hu1.slice
  have B3 := B1.trans (hb3.mono B1.size)
  have U1 := hid hu1
  clear hu1
  go_wp2_with fail
  refine (specExprFault _ l _ _ hln U1.out).mono ?_
  rintro e w5 ⟨rfl, hb5⟩
  have B5 : Below w1.heap.size w1 w5 := B3.trans (hb5.mono B3.size)
  generalize hcc : eFault l = cc at *
  have HCC := hid hcc
  clear U1 hb3 hb5 B1 B3 hcc
  go_wp2_with fail
  refine (HT1.out _ B5).mono ?_
  rintro e w6 ⟨u3, rfl, hu3, hb6⟩
  obtain ⟨x3, d3, rfl⟩ := hu3.slice
  have B6 := B5.trans (hb6.mono B5.size)
  have U3 := hid hu3
  clear hu3
  go_wp2_with fail
  refine (implExprFault _ l _ _ hln U3.out).mono ?_
  rintro e w8 ⟨rfl, hb8⟩
  rw [HCC.out]
  have hs : (cc != cc) = false := by simp
  have B8 : Below w1.heap.size w1 w8 := B6.trans (hb8.mono B6.size)
  have U38 := hid (U3.out.below hb8)
  clear U3 hb6 hb8
  go_wp2_with fail
  refine (HT1.out _ B8).mono ?_
  rintro e w10 ⟨u5, rfl, hu5, hb10⟩
  obtain ⟨x5, d5, rfl⟩ := hu5.slice
  have B10 := B8.trans (hb10.mono B8.size)
  have U5 := hid hu5
  clear hu5
  go_wp2_with fail
  refine (Nd.eqS _ _ l _ _ _ hln (U38.out.below hb10) U5.out).mono ?_
  rintro e w11 ⟨rfl, hb11⟩
  have B11 := B10.trans (hb11.mono B10.size)
  go_wp2
  go_ret
  exact ⟨rfl, B11⟩
theorem own : ownKnob Try.prog.godebug = none := by kernel_rfl
theorem laidOut : laidOutB Try.prog = true := by kernel_rfl
set_option maxRecDepth 100000 in
theorem lifted (os : Os) (started : os.Started) (H : Type) (enc : TypeId × Value → H) :
    ReturnsInHanded {} Try.checked os 4 .any (Rows.fnExactExprFaultSpec.pre6 enc Try.prog Try.f4 Rows.fnExactExprFaultRow.domain false) (Rows.fnExactExprFaultSpec.post enc Try.prog Try.f4 false true false false) := by
  refine returnsInHanded_of_change (C := Try.checked) own started (by kernel_rfl) Try.func4
    (ChangeSpec.witness6 (enc := enc) (C := Try.checked) false ⟨#[], #[.slice none 0 0], []⟩ 8 (by kernel_rfl) (by kernel_rfl) (by kernel_rfl) (by kernel_rfl)) ?_
  intro W base args ds gs before hval0 hW hcnd _
  have hval : ∀ (j : Nat) t v, Try.f4.params[j]? = some t → args[j]? = some v → Value.okWide Try.prog W .any base t v := hval0
  have hW' := hW
  obtain ⟨p, q, hA0, hV, rfl, hfz, hnd⟩ := hW
  have hA : DataW.TrodAll enc Try.prog W 0 (fun _ => true) true Try.f4.params.toList args.toList ds p := hA0
  rw [Try.params4] at hA hval
  obtain ⟨v0, vs0, d0, ds0, p0, q0, hargs, rfl, rfl, h0, r0⟩ := trodAll_cons hA
  obtain ⟨rfl, rfl, rfl⟩ := trodAll_nil r0
  obtain rfl : args = #[v0] := by cases args; simp_all
  obtain ⟨rfl, rfl⟩ := trodVars_none hV
  obtain ⟨a0, len0, cap0, rfl⟩ := okWide_slice Try.underlying28 (hval 0 28 v0 rfl rfl)
  have k0 := h0
  have lt0 : ∀ x ∈ p0, x.block < W.heap.size := by obtain ⟨m, hm⟩ := k0; exact DataW.trod_lt m _ _ _ hm
  obtain ⟨l0, ga0, gc0⟩ : ∃ es, Nd.At W 0 (.slice a0 len0 cap0) es ∧ es.length ≤ maxLen := by
    obtain ⟨fuel, hf⟩ := h0
    exact Nd.open_all (by simpa [Value.cells] using hf)
  clear hA0 hval0
  refine (walk l0 _ W gc0 ga0).mono fun e W' ⟨he, bel⟩ => ?_
  subst he
  exact ⟨_, rfl, _, _, _, [], _, [], hW', trodAll_mk1 (shut_bool Try.underlying4 _), (trodAll_cons_mk (Below.trod laidOut (by kernel_rfl) (of_decide_eq_true (by kernel_rfl)) k0 bel lt0) trodAll_mk0), rfl, bel.frame _, fun h => by cases h⟩
theorem over : Rows.fnExactExprFaultRow.holds Try.pinned (OpenSpec.ofChange Rows.fnExactExprFaultSpec) :=
  OpenClaim.holds_of_wide 4 Try.f4 rfl rfl rfl rfl rfl rfl rfl ⟨rfl, rfl, rfl, rfl, rfl⟩ rfl rfl rfl rfl rfl (by kernel_rfl) Try.func4 (by kernel_rfl)
    (of_decide_eq_true (by kernel_rfl)) (by unfold Func.isWrapper; first | (rw [if_pos (by decide +kernel)]; kernel_rfl) | (rw [if_neg (by decide +kernel)]; exact ⟨rfl, rfl⟩))
    (fun os started H enc _ => lifted os started H enc)
end ExprFaultL
theorem fnExactExprFault_holds : Rows.FnExactExprFaultSaid := ExprFaultL.over
#print axioms fnExactExprFault_holds
end Go.Proofs.Ytalplnbkijmahah
