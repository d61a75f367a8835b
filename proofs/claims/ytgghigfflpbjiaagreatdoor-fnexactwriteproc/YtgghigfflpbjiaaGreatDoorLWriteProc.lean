/- Whatever list of steps is handed in, WriteProc answers as the specification's WriteProc does, in code and in text, and the list reads afterwards as before. Condition, tied to the program's own text: the tables of rules, of powers of ten and of entities hold what their initialisers lay. -/
import Derived.Test.YtgghigfflpbjiaaGreatDoorGY
import Derived.Test.YtgghigfflpbjiaaGreatDoorGB
import Derived.Test.YtgghigfflpbjiaaGreatDoorGX
namespace Go.Proofs.YtgghigfflpbjiaaGreatDoor
open Go.ChangeShapes Go.WideShapes Go.ChangeAt Go.RowKit
open Go.ChangeMaps (open_string shut_string)
set_option linter.unusedVariables false
namespace WpL
open Ex (hid)
open Pf St
set_option maxRecDepth 100000 in
set_option maxHeartbeats 400000 in
theorem eqRes (c : Int) (x : ByteArray) (w : World) :
    Calls Tryz.prog 16 #[.agg #[.int .i64 c, .string x], .agg #[.int .i64 c, .string x]] w fun e w' => e = .returned (.bool true) ∧ Below w.heap.size w w' := by
  have h1 : (c != c) = false := by simp
  have h2 : (x.toList != x.toList) = false := by simp
  have h3 : (x.toList == x.toList) = true := by simp
  go_enter Tryz.func16, Tryz.ntmps16
  go_wp2
  go_ret
  exact ⟨rfl, ((Below.refl _ w).alloc (Nat.le_refl _) _).alloc (by simp) _⟩
set_option maxRecDepth 100000 in
set_option maxHeartbeats 2000000 in
theorem walk (l : List StepD) (v1 : Value) (w : World) (hl : l.length ≤ maxLen) (kl : Ok l) (h1 : At w 0 v1 l) (hr : Rul w) (ht : Ex.Tab w) (he : Esc.Ent w) :
    Calls Tryz.prog 4 #[v1] w fun e w' => e = .returned (.bool true) ∧ Below w.heap.size w w' := by
  have hgl := hr.lt
  have HZ1 := hid (szS 0 l v1 1048576 w (by omega) (by omega) hl kl h1)
  obtain ⟨a1, c1, rfl⟩ := h1.slice
  have H1 := hid h1
  have HR := hid hr
  have HTB := hid ht
  have hel := Crd4.ent_lt he
  have HEN := hid he
  clear h1 hl kl hr ht he
  go_enter Tryz.func4, Tryz.ntmps4
  go_wp2_with fail
  refine HZ1.out.mono ?_
  rintro e w1 ⟨⟨r1, rfl, r1a, r1b, r1c⟩, hb1⟩
  by_cases q1 : r1 < 0
  · go_wp2
    go_ret
    exact ⟨rfl, hb1⟩
  have HS := hid (r1c (by omega))
  clear r1c HZ1
  have B1 := hb1
  have HT1 := hid (fun w' (hb : Below w.heap.size w w') => toS 0 l _ w' HS.out (H1.out.below hb))
  clear H1
  go_wp2_with fail
  refine (HT1.out _ B1).mono ?_
  rintro e w3 ⟨u1, rfl, hu1, hb3⟩
  obtain ⟨x1, d1, rfl⟩ := hu1.slice
  have B3 := B1.trans (hb3.mono B1.size)
  have U1 := hid hu1
  clear hu1
  go_wp2_with fail
  refine (Tf.specWriteProc _ l _ _ HS.out U1.out).mono ?_
  rintro e w5 ⟨rfl, hb5⟩
  have B5 : Below w.heap.size w w5 := B3.trans (hb5.mono B3.size)
  generalize hcc : Tf.wpC l = cc at *
  generalize htt : Tf.wpT l = tt at *
  have HCC := hid hcc
  have HTT := hid htt
  clear U1 hb3 hb5 B1 B3 hcc htt hb1
  go_wp2_with fail
  have B5' : Below w.heap.size w (w5.alloc (.cells #[.int .i64 cc, .string tt] 36)) := B5.alloc B5.size _
  refine (HT1.out _ B5').mono ?_
  rintro e w6 ⟨u3, rfl, hu3, hb6⟩
  obtain ⟨x3, d3, rfl⟩ := hu3.slice
  have B6 := B5'.trans (hb6.mono B5'.size)
  have U3 := hid (hu3.mono (Nat.zero_le _))
  simp only [World.size_alloc] at hb6
  have l6 : w5.heap.size < w6.heap.size := by have := hb6.size; simp at this; omega
  have r0 := kept_cell hb6 (b := w5.heap.size) (o := 0) (v := .int .i64 cc) (by omega) (by go_simp)
  have r1' := kept_cell hb6 (b := w5.heap.size) (o := 1) (v := .string tt) (by omega) (by go_simp)
  clear hu3
  go_wp2_with fail
  refine (Tf.implWriteProc l _ _ HS.out U3.out (HR.out.below B6 hgl) (HTB.out.below B6) (Esc.Ent.below HEN.out B6 hel) (by have := B6.size; omega)).mono ?_
  rintro e w8 ⟨rfl, hb8⟩
  rw [HCC.out, HTT.out]
  have B8 := B6.trans (hb8.mono B6.size)
  have l8 : w5.heap.size < w8.heap.size := by have := hb8.size; omega
  have s0 := kept_cell hb8 (by omega) r0
  have s1 := kept_cell hb8 (by omega) r1'
  have U38 := hid (U3.out.below hb8)
  clear U3 hb6 hb8 r0 r1'
  go_wp2_with fail
  have B8' : Below w.heap.size w (w8.alloc (.cells #[.int .i64 cc, .string tt] 36)) := B8.alloc B8.size _
  have hx8 : Below w8.heap.size w8 (w8.alloc (.cells #[.int .i64 cc, .string tt] 36)) := (Below.refl _ w8).alloc (Nat.le_refl _) _
  refine (eqRes cc tt _).mono ?_
  rintro e w9 ⟨rfl, hb9⟩
  have B9 := B8'.trans (hb9.mono B8'.size)
  have U39 := hid ((U38.out.below hx8).below hb9)
  clear U38 hb9
  go_wp2_with fail
  refine (HT1.out _ B9).mono ?_
  rintro e w10 ⟨u5, rfl, hu5, hb10⟩
  obtain ⟨x5, d5, rfl⟩ := hu5.slice
  have B10 := B9.trans (hb10.mono B9.size)
  have U5 := hid hu5
  clear hu5
  go_wp2_with fail
  refine (eqS _ _ l _ _ _ HS.out (U39.out.below hb10) U5.out).mono ?_
  rintro e w11 ⟨rfl, hb11⟩
  have B11 := B10.trans (hb11.mono B10.size)
  go_wp2
  go_ret
  exact ⟨rfl, B11⟩
set_option maxRecDepth 100000 in
theorem contract (H : Type) (enc : TypeId × Value → H) (W : World) (base : Nat) (args : Array Value) (ds gs : List (DataW H)) (before : List MemPlace)
    (hval : ∀ (j : Nat) t v, Tryz.f4.params[j]? = some t → args[j]? = some v → Value.okWide Tryz.prog W .any base t v)
    (hW : DataW.Whole enc Tryz.prog Tryz.f4.params.toList Rows.fnExactWriteProcSpec.vars false W args.toList ds gs before) (hL : laidMetH Tryz.prog Rows.fnExactWriteProcRow.laid W) :
    Calls Tryz.prog 4 args W fun e W' => ∃ v, e = .returned v ∧ Rows.fnExactWriteProcSpec.post enc Tryz.prog Tryz.f4 false true false false W args v W' := by
  have hent := Crd.rul_in hL (by kernel_rfl)
  have htab := Crd.tab_of hL (by kernel_rfl)
  have hentt := Crd4.ent_in hL (by kernel_rfl)
  have hW' := hW
  obtain ⟨p, q, hA0, hV, rfl, hfz, hnd⟩ := hW
  have hA : DataW.TrodAll enc Tryz.prog W 0 (fun _ => true) true Tryz.f4.params.toList args.toList ds p := hA0
  rw [Tryz.params4] at hA hval
  obtain ⟨v0, vs0, d0, ds0, p0, q0, hargs, rfl, rfl, h0, r0⟩ := trodAll_cons hA
  obtain ⟨rfl, rfl, rfl⟩ := trodAll_nil r0
  obtain rfl : args = #[v0] := by cases args; simp_all
  obtain ⟨a0, len0, cap0, rfl⟩ := okWide_slice Tryz.underlying22 (hval 0 22 v0 rfl rfl)
  have k0 := h0
  have lt0 : ∀ x ∈ p0, x.block < W.heap.size := by obtain ⟨m, hm⟩ := k0; exact DataW.trod_lt m _ _ _ hm
  obtain ⟨l0, ga0, gb0, gc0⟩ : ∃ es, St.At W 0 (.slice a0 len0 cap0) es ∧ St.Ok es ∧ es.length ≤ maxLen := by
    obtain ⟨fuel, hf⟩ := h0
    exact St.open_all (by simpa [Value.cells] using hf)
  clear hA0
  refine (walk l0 _ W gc0 gb0 ga0 hent htab hentt).mono fun e W' ⟨he, bel⟩ => ?_
  subst he
  have hV0 := hV
  obtain ⟨g0, t0, cs0, f0, dv0, pv0, g1, t1, cs1, f1, dv1, pv1, rfl, _, _, _, _, _, _, _, _, rfl⟩ := trodVars_two hV
  have hv' := Below.trodVars Crd.laidOut bel (ns := Rows.fnExactWriteProcSpec.vars) (by kernel_rfl) hV0
  exact ⟨_, rfl, _, _, _, [], _, _, hW', trodAll_mk1 (shut_bool Tryz.underlying4 _), (trodAll_cons_mk (Below.trod Crd.laidOut (by kernel_rfl) (of_decide_eq_true (by kernel_rfl)) k0 bel lt0) trodAll_mk0), hv', bel.frame _, fun h => by cases h⟩
theorem laid_met (os : Os) : laidMet Tryz.prog Rows.fnExactWriteProcRow.laid ((Crd4.laidOver (World.holding Tryz.prog os ⟨#[], #[], []⟩)).forCall (fun _ _ => 0) ⟨#[], #[.slice Option.none 0 0], []⟩).memory :=
  laidMet_of_run' 8 (by kernel_rfl) (by kernel_rfl)
theorem reads (os : Os) {H : Type} (enc : TypeId × Value → H) : ∃ places, DataW.whole enc Tryz.prog ((Crd4.laidOver (World.holding Tryz.prog os ⟨#[], #[], []⟩)).forCall (fun _ _ => 0) ⟨#[], #[.slice Option.none 0 0], []⟩).memory Tryz.f4.params.toList Rows.fnExactWriteProcSpec.vars false #[Value.slice Option.none 0 0].toList 8 = some ([.nil], [Rows.laid_loop_example_g00343_impl_stepRules, Rows.laid_loop_example_g00343_impl_entities], places) :=
  ⟨MemPlace.row ⟨0, 0, Option.none⟩ 56 ++ MemPlace.row ⟨2, 0, Option.none⟩ 15, by kernel_rfl⟩
set_option maxRecDepth 100000 in
theorem lifted (os : Os) (started : os.Started) (H : Type) (enc : TypeId × Value → H) (F : Stop.Interp) :
    ReturnsInHanded {} Tryz.checked os 4 .any ((OpenSpec.ofChange Rows.fnExactWriteProcSpec).preRow enc Tryz.prog Tryz.f4 Rows.fnExactWriteProcRow.domain false Rows.fnExactWriteProcRow.laid) (((OpenSpec.ofChange Rows.fnExactWriteProcSpec).at F).post enc Tryz.prog Tryz.f4 false true false false) := by
  obtain ⟨places, hx⟩ := reads os enc
  refine returnsInHanded_of_row (C := Tryz.checked) (s := OpenSpec.ofChange Rows.fnExactWriteProcSpec) Crd.own started (by kernel_rfl) Tryz.func4
    (witness_row_at (enc := enc) (C := Tryz.checked) false (Crd4.laidOver (World.holding Tryz.prog os ⟨#[], #[], []⟩)) #[.slice Option.none 0 0] rfl (by kernel_rfl) (by kernel_rfl) (by kernel_rfl)
      (OpenSpec.preRow_of_cond 8 hx (by kernel_rfl) (fun k hk => by cases hk) (by kernel_rfl) (laid_met os))) ?_
  intro W base args ds gs before hval hW _ _ _ hL _ _
  exact contract H enc W base args ds gs before hval hW hL
theorem said : Rows.FnExactWriteProcSaid :=
  OpenClaim.holds_of_cond 4 Tryz.f4 rfl rfl rfl rfl rfl rfl rfl ⟨rfl, rfl, rfl, rfl, rfl⟩ rfl rfl rfl rfl rfl (by kernel_rfl) Tryz.func4 (by kernel_rfl)
    (of_decide_eq_true (by kernel_rfl)) (by unfold Func.isWrapper; first | (rw [if_pos (by decide +kernel)]; kernel_rfl) | (rw [if_neg (by decide +kernel)]; exact ⟨rfl, rfl⟩))
    (fun os started H enc _ F => by rw [OpenClaim.pre_eq_preRow]; exact lifted os started H enc F)
set_option maxRecDepth 100000 in
theorem plain (f : FuncId) (fn : Func) (hf : Tryz.pinned.checked.prog.funcNamed "loop.example/g00343/laws.FnExactWriteProc" = some f) (hfn : Tryz.pinned.checked.prog.funcs[f]? = some fn) :
    true = Tryz.pinned.checked.prog.looks [] ∧ ∀ (j : Nat) t, fn.params[j]? = some t → Tryz.pinned.checked.prog.wantsStandIn t = false := by
  obtain rfl : f = 4 := Option.some.inj ((show Tryz.prog.funcNamed "loop.example/g00343/laws.FnExactWriteProc" = some 4 by kernel_rfl).symm.trans hf) |>.symm
  obtain rfl : fn = Tryz.f4 := (Option.some.inj (Tryz.func4.symm.trans hfn)).symm
  refine ⟨by kernel_rfl, fun j t ht => ?_⟩
  rw [Tryz.params4] at ht
  obtain rfl : t = 22 := by simpa using Array.mem_of_getElem? ht
  exact (show Tryz.prog.wantsStandIn 22 = false by kernel_rfl)
end WpL
theorem fnExactWriteProc_card : Rows.FnExactWriteProcCardSaid :=
  Claim7.holds_tied_plain_at .later [] _ _ _ _ WpL.said (fun _ h => by cases h) (by kernel_rfl) (fun _ h => by cases h) fnExactWriteProc_row_tie rfl ⟨rfl, rfl⟩ (by kernel_rfl) rfl WpL.plain (by kernel_rfl)
#print axioms fnExactWriteProc_card
end Go.Proofs.YtgghigfflpbjiaaGreatDoor
