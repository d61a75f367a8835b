/- Whatever list of steps is handed in, IsPlain answers as the specification's IsPlain does, and the list reads afterwards as before. Condition, tied to the program's own text: the table of rules holds what its initialiser lays. -/
import Derived.Test.YtedgobdnjemegaaDoorJIsPlain7
import Derived.Test.YtedgobdnjemegaaDoorJIsPlain22
import Derived.Test.YtedgobdnjemegaaDoorJIsPlain8
import Derived.Test.YtedgobdnjemegaaDoorJIsPlain36
import Derived.Test.YtedgobdnjemegaaDoorJIsPlain13
namespace Go.Proofs.YtedgobdnjemegaaDoor
open Go.ChangeShapes Go.WideShapes Go.ChangeAt Go.RowKit
open Go.ChangeMaps (open_string shut_string)
set_option linter.unusedVariables false
namespace IpL
open Ex (hid)
open Pf St
set_option maxRecDepth 100000 in
set_option maxHeartbeats 2000000 in
theorem walk (l : List StepD) (v1 : Value) (w : World) (hl : l.length ≤ maxLen) (kl : Ok l) (h1 : At w 0 v1 l) (hr : Rul w) :
    Calls Tryd.prog 4 #[v1] w fun e w' => e = .returned (.bool true) ∧ Below w.heap.size w w' := by
  have hgl := hr.lt
  have HZ1 := hid (szS 0 l v1 1048576 w (by omega) (by omega) hl kl h1)
  obtain ⟨a1, c1, rfl⟩ := h1.slice
  have H1 := hid h1
  have HR := hid hr
  clear h1 hl kl hr
  go_enter Tryd.func4, Tryd.ntmps4
  go_wp2_with fail
  refine HZ1.out.mono ?_
  rintro e w1 ⟨⟨r1, rfl, r1a, r1b, r1c⟩, hb1⟩
  by_cases q1 : r1 < 0
  · go_wp2
    go_ret
    exact ⟨rfl, hb1⟩
  have HS := hid (r1c (by omega))
  clear r1c HZ1
  have B1 := hb1
  have HT1 := hid (fun w' (hb : Below w.heap.size w w') => toS 0 l _ w' HS.out (H1.out.below hb))
  clear H1
  go_wp2_with fail
  refine (HT1.out _ B1).mono ?_
  rintro e w3 ⟨u1, rfl, hu1, hb3⟩
  obtain ⟨x1, d1, rfl⟩ := hu1.slice
  have B3 := B1.trans (hb3.mono B1.size)
  have U1 := hid hu1
  clear hu1
  go_wp2_with fail
  refine (Bk.specIsPlain _ l _ _ HS.out U1.out).mono ?_
  rintro e w5 ⟨⟨cc, rfl, hcc⟩, hb5⟩
  have B5 : Below w.heap.size w w5 := B3.trans (hb5.mono B3.size)
  have HCC := hid hcc
  clear U1 hb3 hb5 B1 B3 hcc hb1
  go_wp2_with fail
  refine (HT1.out _ B5).mono ?_
  rintro e w6 ⟨u3, rfl, hu3, hb6⟩
  obtain ⟨x3, d3, rfl⟩ := hu3.slice
  have B6 := B5.trans (hb6.mono B5.size)
  have U3 := hid (hu3.mono (Nat.zero_le _))
  clear hu3
  go_wp2_with fail
  refine (Bk.implIsPlain l _ _ HS.out U3.out (HR.out.below B6 hgl)).mono ?_
  rintro e w8 ⟨⟨dd, rfl, hdd⟩, hb8⟩
  obtain rfl : dd = cc := by
    rw [Bool.eq_iff_iff, hdd, HCC.out]
  clear hdd
  have hs : (dd != dd) = false := by simp
  have B8 : Below w.heap.size w w8 := B6.trans (hb8.mono B6.size)
  have U38 := hid (U3.out.below hb8)
  clear U3 hb6 hb8
  go_wp2_with fail
  refine (HT1.out _ B8).mono ?_
  rintro e w10 ⟨u5, rfl, hu5, hb10⟩
  obtain ⟨x5, d5, rfl⟩ := hu5.slice
  have B10 := B8.trans (hb10.mono B8.size)
  have U5 := hid hu5
  clear hu5
  go_wp2_with fail
  refine (eqS _ _ l _ _ _ HS.out (U38.out.below hb10) U5.out).mono ?_
  rintro e w11 ⟨rfl, hb11⟩
  have B11 := B10.trans (hb11.mono B10.size)
  go_wp2
  go_ret
  exact ⟨rfl, B11⟩
set_option maxRecDepth 100000 in
theorem contract (H : Type) (enc : TypeId × Value → H) (W : World) (base : Nat) (args : Array Value) (ds gs : List (DataW H)) (before : List MemPlace)
    (hval : ∀ (j : Nat) t v, Tryd.f4.params[j]? = some t → args[j]? = some v → Value.okWide Tryd.prog W .any base t v)
    (hW : DataW.Whole enc Tryd.prog Tryd.f4.params.toList Rows.fnExactIsPlainSpec.vars false W args.toList ds gs before) (hL : laidMetH Tryd.prog Rows.fnExactIsPlainRow.laid W) :
    Calls Tryd.prog 4 args W fun e W' => ∃ v, e = .returned v ∧ Rows.fnExactIsPlainSpec.post enc Tryd.prog Tryd.f4 false true false false W args v W' := by
  have hent := Crd.rul_of hL
  have hW' := hW
  obtain ⟨p, q, hA0, hV, rfl, hfz, hnd⟩ := hW
  have hA : DataW.TrodAll enc Tryd.prog W 0 (fun _ => true) true Tryd.f4.params.toList args.toList ds p := hA0
  rw [Tryd.params4] at hA hval
  obtain ⟨v0, vs0, d0, ds0, p0, q0, hargs, rfl, rfl, h0, r0⟩ := trodAll_cons hA
  obtain ⟨rfl, rfl, rfl⟩ := trodAll_nil r0
  obtain rfl : args = #[v0] := by cases args; simp_all
  obtain ⟨a0, len0, cap0, rfl⟩ := okWide_slice Tryd.underlying22 (hval 0 22 v0 rfl rfl)
  have k0 := h0
  have lt0 : ∀ x ∈ p0, x.block < W.heap.size := by obtain ⟨m, hm⟩ := k0; exact DataW.trod_lt m _ _ _ hm
  obtain ⟨l0, ga0, gb0, gc0⟩ : ∃ es, St.At W 0 (.slice a0 len0 cap0) es ∧ St.Ok es ∧ es.length ≤ maxLen := by
    obtain ⟨fuel, hf⟩ := h0
    exact St.open_all (by simpa [Value.cells] using hf)
  clear hA0
  refine (walk l0 _ W gc0 gb0 ga0 hent).mono fun e W' ⟨he, bel⟩ => ?_
  subst he
  have hV0 := hV
  obtain ⟨g, t, cs, fuel, dv, pv, rfl, hg, ht, hvar, hd, rfl⟩ := trodVars_one hV
  have hv' := Below.trodVars Crd.laidOut bel (ns := Rows.fnExactIsPlainSpec.vars) (by kernel_rfl) hV0
  exact ⟨_, rfl, _, _, _, [], _, _, hW', trodAll_mk1 (shut_bool Tryd.underlying4 _), (trodAll_cons_mk (Below.trod Crd.laidOut (by kernel_rfl) (of_decide_eq_true (by kernel_rfl)) k0 bel lt0) trodAll_mk0), hv', bel.frame _, fun h => by cases h⟩
theorem laid_met (os : Os) : laidMet Tryd.prog Rows.fnExactIsPlainRow.laid ((Crd.laidOver (World.holding Tryd.prog os ⟨#[], #[], []⟩)).forCall (fun _ _ => 0) ⟨#[], #[.slice Option.none 0 0], []⟩).memory :=
  laidMet_of_run' 8 (by kernel_rfl) (by kernel_rfl)
theorem reads (os : Os) {H : Type} (enc : TypeId × Value → H) : ∃ places, DataW.whole enc Tryd.prog ((Crd.laidOver (World.holding Tryd.prog os ⟨#[], #[], []⟩)).forCall (fun _ _ => 0) ⟨#[], #[.slice Option.none 0 0], []⟩).memory Tryd.f4.params.toList Rows.fnExactIsPlainSpec.vars false #[Value.slice Option.none 0 0].toList 8 = some ([.nil], [Rows.laid_loop_example_g00343_impl_stepRules], places) :=
  ⟨MemPlace.row ⟨0, 0, Option.none⟩ 56, by kernel_rfl⟩
set_option maxRecDepth 100000 in
theorem lifted (os : Os) (started : os.Started) (H : Type) (enc : TypeId × Value → H) (F : Stop.Interp) :
    ReturnsInHanded {} Tryd.checked os 4 .any ((OpenSpec.ofChange Rows.fnExactIsPlainSpec).preRow enc Tryd.prog Tryd.f4 Rows.fnExactIsPlainRow.domain false Rows.fnExactIsPlainRow.laid) (((OpenSpec.ofChange Rows.fnExactIsPlainSpec).at F).post enc Tryd.prog Tryd.f4 false true false false) := by
  obtain ⟨places, hx⟩ := reads os enc
  refine returnsInHanded_of_row (C := Tryd.checked) (s := OpenSpec.ofChange Rows.fnExactIsPlainSpec) Crd.own started (by kernel_rfl) Tryd.func4
    (witness_row_at (enc := enc) (C := Tryd.checked) false (Crd.laidOver (World.holding Tryd.prog os ⟨#[], #[], []⟩)) #[.slice Option.none 0 0] rfl (by kernel_rfl) (by kernel_rfl) (by kernel_rfl)
      (OpenSpec.preRow_of_cond 8 hx (by kernel_rfl) (fun k hk => by cases hk) (by kernel_rfl) (laid_met os))) ?_
  intro W base args ds gs before hval hW _ _ _ hL _ _
  exact contract H enc W base args ds gs before hval hW hL
theorem said : Rows.FnExactIsPlainSaid :=
  OpenClaim.holds_of_cond 4 Tryd.f4 rfl rfl rfl rfl rfl rfl rfl ⟨rfl, rfl, rfl, rfl, rfl⟩ rfl rfl rfl rfl rfl (by kernel_rfl) Tryd.func4 (by kernel_rfl)
    (of_decide_eq_true (by kernel_rfl)) (by unfold Func.isWrapper; first | (rw [if_pos (by decide +kernel)]; kernel_rfl) | (rw [if_neg (by decide +kernel)]; exact ⟨rfl, rfl⟩))
    (fun os started H enc _ F => by rw [OpenClaim.pre_eq_preRow]; exact lifted os started H enc F)
set_option maxRecDepth 100000 in
theorem plain (f : FuncId) (fn : Func) (hf : Tryd.pinned.checked.prog.funcNamed "loop.example/g00343/laws.FnExactIsPlain" = some f) (hfn : Tryd.pinned.checked.prog.funcs[f]? = some fn) :
    true = Tryd.pinned.checked.prog.looks [] ∧ ∀ (j : Nat) t, fn.params[j]? = some t → Tryd.pinned.checked.prog.wantsStandIn t = false := by
  obtain rfl : f = 4 := Option.some.inj ((show Tryd.prog.funcNamed "loop.example/g00343/laws.FnExactIsPlain" = some 4 by kernel_rfl).symm.trans hf) |>.symm
  obtain rfl : fn = Tryd.f4 := (Option.some.inj (Tryd.func4.symm.trans hfn)).symm
  refine ⟨by kernel_rfl, fun j t ht => ?_⟩
  rw [Tryd.params4] at ht
  obtain rfl : t = 22 := by simpa using Array.mem_of_getElem? ht
  exact (show Tryd.prog.wantsStandIn 22 = false by kernel_rfl)
end IpL
theorem fnExactIsPlain_card : Rows.FnExactIsPlainCardSaid :=
  Claim7.holds_tied_plain_at .later [] _ _ _ _ IpL.said (fun _ h => by cases h) (by kernel_rfl) (fun _ h => by cases h) fnExactIsPlain_row_tie rfl ⟨rfl, rfl⟩ (by kernel_rfl) rfl IpL.plain (by kernel_rfl)
#print axioms fnExactIsPlain_card
end Go.Proofs.YtedgobdnjemegaaDoor
