/- Whatever list of nodes is handed in, ExprText answers as the specification's ExprText does, in code and in text, and the list reads afterwards as before. Condition, tied to the program's own text: the library's table of powers of ten holds what its initialiser lays. -/
import Derived.Test.YtalplnbkijmahaiDoorCard1
import Derived.Test.YtalplnbkijmahaiDoorTxC
namespace Go.Proofs.YtalplnbkijmahaiDoor
open Go.ChangeShapes Go.WideShapes Go.ChangeAt Go.RowKit
open Go.ChangeMaps (open_string shut_string)
set_option linter.unusedVariables false
namespace TxL
open Ex
open Nd (NodeD)
set_option maxRecDepth 100000 in
set_option maxHeartbeats 400000 in
theorem eqRes (c : Int) (x : ByteArray) (w : World) :
    Calls Tryd.prog 9 #[.agg #[.int .i64 c, .string x], .agg #[.int .i64 c, .string x]] w fun e w' => e = .returned (.bool true) ∧ Below w.heap.size w w' := by
  have h1 : (c != c) = false := by simp
  have h2 : (x.toList != x.toList) = false := by simp
  have h3 : (x.toList == x.toList) = true := by simp
  go_enter Tryd.func9, Tryd.ntmps9
  go_wp2
  go_ret
  exact ⟨rfl, ((Below.refl _ w).alloc (Nat.le_refl _) _).alloc (by simp) _⟩
set_option maxRecDepth 100000 in
set_option maxHeartbeats 2000000 in
theorem walk (l : List NodeD) (v1 : Value) (w0 : World) (hl : l.length ≤ maxLen) (h1 : Nd.At w0 0 v1 l) (ht : Tab w0) :
    Calls Tryd.prog 3 #[v1] w0 fun e w' => e = .returned (.bool true) ∧ Below w0.heap.size w0 w' := by
  have HZ1 := hid (Nd.szS l v1 1048576 0 w0 (by omega) (by omega) hl h1)
  obtain ⟨a1, c1, rfl⟩ := h1.slice
  have H1 := hid h1
  have HTb := hid ht
  clear h1 hl ht
  go_enter Tryd.func3, Tryd.ntmps3
  go_wp2_with fail
  refine HZ1.out.mono ?_
  rintro e w ⟨⟨r1, rfl, r1a, r1b, r1c⟩, rfl⟩
  by_cases q1 : r1 < 0
  · go_wp2
    go_ret
    exact ⟨rfl, Below.refl _ _⟩
  have hln : l.length ≤ 1048576 := by have := r1c (by omega); omega
  clear r1c HZ1
  have B1 : Below w.heap.size w w := Below.refl _ _
  have HT1 := hid (fun w' (hb : Below w.heap.size w w') => Nd.toS 0 l _ w' hln (H1.out.below hb))
  clear H1
  go_wp2_with fail
  refine (HT1.out _ B1).mono ?_
  rintro e w3 ⟨u1, rfl, hu1, hb3⟩
  obtain ⟨x1, d1, rfl⟩ := hu1.slice
  have B3 := B1.trans (hb3.mono B1.size)
  have U1 := hid hu1
  clear hu1
  go_wp2_with fail
  refine (specExprText _ l _ _ hln U1.out).mono ?_
  rintro e w5 ⟨rfl, hb5⟩
  have B5 := B3.trans (hb5.mono B3.size)
  generalize hcc : eFault l = cc at *
  generalize htt : str (textOf l) = tt at *
  have HCC := hid hcc
  have HTT := hid htt
  clear U1 hb3 hb5 B1 B3 hcc htt
  go_wp2_with fail
  have B5' : Below w.heap.size w (w5.alloc (.cells #[.int .i64 cc, .string tt] 25)) := B5.alloc B5.size _
  refine (HT1.out _ B5').mono ?_
  rintro e w6 ⟨u3, rfl, hu3, hb6⟩
  obtain ⟨x3, d3, rfl⟩ := hu3.slice
  have B6 := B5'.trans (hb6.mono B5'.size)
  have U3 := hid hu3
  simp only [World.size_alloc] at hb6
  have l6 : w5.heap.size < w6.heap.size := by have := hb6.size; simp at this; omega
  have r0 := kept_cell hb6 (b := w5.heap.size) (o := 0) (v := .int .i64 cc) (by omega) (by go_simp)
  have r1' := kept_cell hb6 (b := w5.heap.size) (o := 1) (v := .string tt) (by omega) (by go_simp)
  clear hu3
  go_wp2_with fail
  refine (implExprText _ l _ _ hln U3.out (HTb.out.below B6)).mono ?_
  rintro e w8 ⟨rfl, hb8⟩
  rw [HCC.out, HTT.out]
  have B8 := B6.trans (hb8.mono B6.size)
  have l8 : w5.heap.size < w8.heap.size := by have := hb8.size; omega
  have s0 := kept_cell hb8 (by omega) r0
  have s1 := kept_cell hb8 (by omega) r1'
  have U38 := hid (U3.out.below hb8)
  clear U3 hb6 hb8 r0 r1'
  go_wp2_with fail
  have B8' : Below w.heap.size w (w8.alloc (.cells #[.int .i64 cc, .string tt] 25)) := B8.alloc B8.size _
  have hx8 : Below w8.heap.size w8 (w8.alloc (.cells #[.int .i64 cc, .string tt] 25)) := (Below.refl _ w8).alloc (Nat.le_refl _) _
  refine (eqRes cc tt _).mono ?_
  rintro e w9 ⟨rfl, hb9⟩
  have B9 := B8'.trans (hb9.mono B8'.size)
  have U39 := hid ((U38.out.below hx8).below hb9)
  clear U38 hb9
  go_wp2_with fail
  refine (HT1.out _ B9).mono ?_
  rintro e w10 ⟨u5, rfl, hu5, hb10⟩
  obtain ⟨x5, d5, rfl⟩ := hu5.slice
  have B10 := B9.trans (hb10.mono B9.size)
  have U5 := hid hu5
  clear hu5
  go_wp2_with fail
  refine (Nd.eqS _ _ l _ _ _ hln (U39.out.below hb10) U5.out).mono ?_
  rintro e w11 ⟨rfl, hb11⟩
  have B11 := B10.trans (hb11.mono B10.size)
  go_wp2
  go_ret
  exact ⟨rfl, B11⟩
set_option maxRecDepth 100000 in
theorem contract (H : Type) (enc : TypeId × Value → H) (W : World) (base : Nat) (args : Array Value) (ds gs : List (DataW H)) (before : List MemPlace)
    (hval : ∀ (j : Nat) t v, Tryd.f3.params[j]? = some t → args[j]? = some v → Value.okWide Tryd.prog W .any base t v)
    (hW : DataW.Whole enc Tryd.prog Tryd.f3.params.toList Rows.fnExactExprTextSpec.vars false W args.toList ds gs before) (hL : laidMetH Tryd.prog Rows.fnExactExprTextRow.laid W) :
    Calls Tryd.prog 3 args W fun e W' => ∃ v, e = .returned v ∧ Rows.fnExactExprTextSpec.post enc Tryd.prog Tryd.f3 false true false false W args v W' := by
  have hent := Crd.tab_of hL (by kernel_rfl)
  have hW' := hW
  obtain ⟨p, q, hA0, hV, rfl, hfz, hnd⟩ := hW
  have hA : DataW.TrodAll enc Tryd.prog W 0 (fun _ => true) true Tryd.f3.params.toList args.toList ds p := hA0
  rw [Tryd.params3] at hA hval
  obtain ⟨v0, vs0, d0, ds0, p0, q0, hargs, rfl, rfl, h0, r0⟩ := trodAll_cons hA
  obtain ⟨rfl, rfl, rfl⟩ := trodAll_nil r0
  obtain rfl : args = #[v0] := by cases args; simp_all
  obtain ⟨rfl, rfl⟩ := trodVars_none hV
  obtain ⟨a0, len0, cap0, rfl⟩ := okWide_slice Tryd.underlying22 (hval 0 22 v0 rfl rfl)
  have k0 := h0
  have lt0 : ∀ x ∈ p0, x.block < W.heap.size := by obtain ⟨m, hm⟩ := k0; exact DataW.trod_lt m _ _ _ hm
  obtain ⟨l0, ga0, gc0⟩ : ∃ es, Nd.At W 0 (.slice a0 len0 cap0) es ∧ es.length ≤ maxLen := by
    obtain ⟨fuel, hf⟩ := h0
    exact Nd.open_all (by simpa [Value.cells] using hf)
  clear hA0
  refine (walk l0 _ W gc0 ga0 hent).mono fun e W' ⟨he, bel⟩ => ?_
  subst he
  exact ⟨_, rfl, _, _, _, [], _, [], hW', trodAll_mk1 (shut_bool Tryd.underlying4 _), (trodAll_cons_mk (Below.trod Crd.laidOut (by kernel_rfl) (of_decide_eq_true (by kernel_rfl)) k0 bel lt0) trodAll_mk0), rfl, bel.frame _, fun h => by cases h⟩
theorem laid_met (os : Os) : laidMet Tryd.prog Rows.fnExactExprTextRow.laid ((Crd.laidOver (World.holding Tryd.prog os ⟨#[], #[], []⟩)).forCall (fun _ _ => 0) ⟨#[], #[.slice Option.none 0 0], []⟩).memory :=
  laidMet_of_run' 8 (by kernel_rfl) (by kernel_rfl)
theorem reads (os : Os) {H : Type} (enc : TypeId × Value → H) : DataW.whole enc Tryd.prog ((Crd.laidOver (World.holding Tryd.prog os ⟨#[], #[], []⟩)).forCall (fun _ _ => 0) ⟨#[], #[.slice Option.none 0 0], []⟩).memory Tryd.f3.params.toList Rows.fnExactExprTextSpec.vars false #[Value.slice Option.none 0 0].toList 8 = some ([.nil], [], []) := by kernel_rfl
set_option maxRecDepth 100000 in
theorem lifted (os : Os) (started : os.Started) (H : Type) (enc : TypeId × Value → H) (F : Stop.Interp) :
    ReturnsInHanded {} Tryd.checked os 3 .any ((OpenSpec.ofChange Rows.fnExactExprTextSpec).preRow enc Tryd.prog Tryd.f3 Rows.fnExactExprTextRow.domain false Rows.fnExactExprTextRow.laid) (((OpenSpec.ofChange Rows.fnExactExprTextSpec).at F).post enc Tryd.prog Tryd.f3 false true false false) := by
  have hx := reads os enc
  refine returnsInHanded_of_row (C := Tryd.checked) (s := OpenSpec.ofChange Rows.fnExactExprTextSpec) Crd.own started (by kernel_rfl) Tryd.func3
    (witness_row_at (enc := enc) (C := Tryd.checked) false (Crd.laidOver (World.holding Tryd.prog os ⟨#[], #[], []⟩)) #[.slice Option.none 0 0] rfl (by kernel_rfl) (by kernel_rfl) (by kernel_rfl)
      (OpenSpec.preRow_of_cond 8 hx (by kernel_rfl) (fun k hk => by cases hk) (by kernel_rfl) (laid_met os))) ?_
  intro W base args ds gs before hval hW _ _ _ hL _ _
  exact contract H enc W base args ds gs before hval hW hL
theorem said : Rows.FnExactExprTextSaid :=
  OpenClaim.holds_of_cond 3 Tryd.f3 rfl rfl rfl rfl rfl rfl rfl ⟨rfl, rfl, rfl, rfl, rfl⟩ rfl rfl rfl rfl rfl (by kernel_rfl) Tryd.func3 (by kernel_rfl)
    (of_decide_eq_true (by kernel_rfl)) (by unfold Func.isWrapper; first | (rw [if_pos (by decide +kernel)]; kernel_rfl) | (rw [if_neg (by decide +kernel)]; exact ⟨rfl, rfl⟩))
    (fun os started H enc _ F => by rw [OpenClaim.pre_eq_preRow]; exact lifted os started H enc F)
set_option maxRecDepth 100000 in
theorem plain (f : FuncId) (fn : Func) (hf : Tryd.pinned.checked.prog.funcNamed "loop.example/g00343/laws.FnExactExprText" = some f) (hfn : Tryd.pinned.checked.prog.funcs[f]? = some fn) :
    true = Tryd.pinned.checked.prog.looks [] ∧ ∀ (j : Nat) t, fn.params[j]? = some t → Tryd.pinned.checked.prog.wantsStandIn t = false := by
  obtain rfl : f = 3 := Option.some.inj ((show Tryd.prog.funcNamed "loop.example/g00343/laws.FnExactExprText" = some 3 by kernel_rfl).symm.trans hf) |>.symm
  obtain rfl : fn = Tryd.f3 := (Option.some.inj (Tryd.func3.symm.trans hfn)).symm
  refine ⟨by kernel_rfl, fun j t ht => ?_⟩
  rw [Tryd.params3] at ht
  obtain rfl : t = 22 := by simpa using Array.mem_of_getElem? ht
  exact (show Tryd.prog.wantsStandIn 22 = false by kernel_rfl)
end TxL
theorem fnExactExprText_card : Rows.FnExactExprTextCardSaid :=
  Claim7.holds_tied_plain_at .later [] _ _ _ _ TxL.said (fun _ h => by cases h) (by kernel_rfl) (fun _ h => by cases h) fnExactExprText_row_tie rfl ⟨rfl, rfl⟩ (by kernel_rfl) rfl TxL.plain (by kernel_rfl)
#print axioms fnExactExprText_card
end Go.Proofs.YtalplnbkijmahaiDoor
