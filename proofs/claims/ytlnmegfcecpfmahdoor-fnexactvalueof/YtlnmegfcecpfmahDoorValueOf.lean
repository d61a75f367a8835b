/- Whatever list of elements, number and name are handed in, ValueOf answers as the specification's ValueOf does, in code and in text, and the list reads afterwards as before. Condition, tied to the program's own text: the table of entities holds what its initialiser lays. -/
import Derived.Test.YtlnmegfcecpfmahDoorCard0
import Derived.Test.YtlnmegfcecpfmahDoorTrO
import Derived.Test.YtlnmegfcecpfmahDoorTrC
import Derived.Test.YtlnmegfcecpfmahDoorTrD
import Derived.Test.YtlnmegfcecpfmahDoorTrVb
namespace Go.Proofs.YtlnmegfcecpfmahDoor
open Go.ChangeShapes Go.WideShapes Go.ChangeAt Go.RowKit
open Go.ChangeMaps (open_string shut_string)
set_option linter.unusedVariables false
namespace VaL
open Tr
set_option maxRecDepth 100000 in
set_option maxHeartbeats 400000 in
theorem eqText (c : Int) (t : ByteArray) (w : World) :
    Calls Tryd.prog 11 #[.agg #[.int .i64 c, .string t], .agg #[.int .i64 c, .string t]] w fun e w' => e = .returned (.bool true) ∧ Below w.heap.size w w' := by
  have h1 : (c != c) = false := by simp
  go_enter Tryd.func11, Tryd.ntmps11
  go_wp2
  go_ret
  exact ⟨rfl, ((Below.refl _ w).alloc (Nat.le_refl _) _).alloc (by simp) _⟩
set_option maxRecDepth 100000 in
set_option maxHeartbeats 2000000 in
theorem walk (l : List ElemD) (v1 : Value) (at' : Int) (nm : ByteArray) (w : World) (hl : l.length ≤ maxLen) (kl : OkE l) (h1 : ElemsAt w 0 v1 l) (hn : nm.size ≤ maxLen) (he : Esc.Ent w) :
    Calls Tryd.prog 6 #[v1, .int .i64 at', .string nm] w fun e w' => e = .returned (.bool true) ∧ Below w.heap.size w w' := by
  have hw := he.pos
  have HZ1 := hid (szElemS 0 l v1 1048576 w (by omega) (by omega) hl kl h1)
  obtain ⟨a1, c1, rfl⟩ := h1.slice
  have H1 := hid h1
  have HK := hid kl
  have HE := hid he
  unfold maxLen at hn
  clear h1 hl kl he
  by_cases q0 : (1048576 : Int) < (nm.size : Int)
  · go_enter Tryd.func6, Tryd.ntmps6
    go_wp2
    go_ret
    exact ⟨rfl, Below.refl _ _⟩
  go_enter Tryd.func6, Tryd.ntmps6
  go_wp2_with fail
  refine HZ1.out.mono ?_
  rintro e w1 ⟨⟨r1, rfl, r1a, r1b, r1c⟩, B1⟩
  by_cases q1 : r1 < 0
  · go_wp2
    go_ret
    exact ⟨rfl, B1⟩
  have S1 := hid (r1c (by omega))
  have hln := S1.out.1
  clear r1c HZ1
  have HT1 := hid (fun w' (hb : Below w.heap.size w w') => toElemS 0 l _ w' S1.out (H1.out.below hb))
  clear H1
  go_wp2_with fail
  refine (HT1.out _ B1).mono ?_
  rintro e w3 ⟨u1, rfl, hu1, hb3⟩
  obtain ⟨x1, d1, rfl⟩ := hu1.slice
  have B3 := B1.trans (hb3.mono B1.size)
  have U1 := hid hu1
  clear hu1
  go_wp2_with fail
  refine (specValueOf _ l _ at' nm _ S1.out HK.out U1.out).mono ?_
  rintro e w5 ⟨rfl, hb5⟩
  have B5 := B3.trans (hb5.mono B3.size)
  generalize hcc : valCode l at' nm = cc at *
  generalize htt : valText l at' nm = tt at *
  have HCC := hid hcc
  have HTT := hid htt
  clear U1 hb3 hb5 B1 B3 hcc htt
  go_wp2_with fail
  have B5' : Below w.heap.size w (w5.alloc (.cells #[.int .i64 cc, .string tt] 25)) := B5.alloc B5.size _
  refine (HT1.out _ B5').mono ?_
  rintro e w6 ⟨u3, rfl, hu3, hb6⟩
  obtain ⟨x3, d3, rfl⟩ := hu3.slice
  have B6 := B5'.trans (hb6.mono B5'.size)
  have U3 := hid (hu3.mono (Nat.zero_le _))
  simp only [World.size_alloc] at hb6
  have l6 : w5.heap.size < w6.heap.size := by have := hb6.size; simp at this; omega
  have r0 := kept_cell hb6 (b := w5.heap.size) (o := 0) (v := .int .i64 cc) (by omega) (by go_simp)
  have r1' := kept_cell hb6 (b := w5.heap.size) (o := 1) (v := .string tt) (by omega) (by go_simp)
  clear hu3
  go_wp2_with fail
  refine (implValueOf l _ at' nm _ S1.out HK.out U3.out (Esc.Ent.below HE.out B6 hw) (by have := B6.size; omega)).mono ?_
  rintro e w8 ⟨rfl, hb8⟩
  rw [HCC.out, HTT.out]
  have B8 := B6.trans (hb8.mono B6.size)
  have l8 : w5.heap.size < w8.heap.size := by have := hb8.size; omega
  have s0 := kept_cell hb8 (by omega) r0
  have s1 := kept_cell hb8 (by omega) r1'
  have U38 := hid (U3.out.below hb8)
  clear U3 hb6 hb8 r0 r1'
  go_wp2_with fail
  have B8' : Below w.heap.size w (w8.alloc (.cells #[.int .i64 cc, .string tt] 25)) := B8.alloc B8.size _
  have hx8 : Below w8.heap.size w8 (w8.alloc (.cells #[.int .i64 cc, .string tt] 25)) := (Below.refl _ w8).alloc (Nat.le_refl _) _
  refine (eqText cc tt _).mono ?_
  rintro e w9 ⟨rfl, hb9⟩
  have B9 := B8'.trans (hb9.mono B8'.size)
  have U39 := hid ((U38.out.below hx8).below hb9)
  clear U38 hb9
  go_wp2_with fail
  refine (HT1.out _ B9).mono ?_
  rintro e w10 ⟨u5, rfl, hu5, hb10⟩
  obtain ⟨x5, d5, rfl⟩ := hu5.slice
  have B10 := B9.trans (hb10.mono B9.size)
  have U5 := hid hu5
  clear hu5
  go_wp2_with fail
  refine (eqElemS _ _ l _ _ _ S1.out (U39.out.below hb10) U5.out).mono ?_
  rintro e w11 ⟨rfl, hb11⟩
  have B11 := B10.trans (hb11.mono B10.size)
  go_wp2
  go_ret
  exact ⟨rfl, B11⟩
set_option maxRecDepth 100000 in
theorem contract (H : Type) (enc : TypeId × Value → H) (W : World) (base : Nat) (args : Array Value) (ds gs : List (DataW H)) (before : List MemPlace)
    (hval : ∀ (j : Nat) t v, Tryd.f6.params[j]? = some t → args[j]? = some v → Value.okWide Tryd.prog W .any base t v)
    (hW : DataW.Whole enc Tryd.prog Tryd.f6.params.toList Rows.fnExactValueOfSpec.vars false W args.toList ds gs before) (hL : laidMetH Tryd.prog Rows.fnExactValueOfRow.laid W) :
    Calls Tryd.prog 6 args W fun e W' => ∃ v, e = .returned v ∧ Rows.fnExactValueOfSpec.post enc Tryd.prog Tryd.f6 false true false false W args v W' := by
  have hent := Esc.ent_of hL
  have hW' := hW
  obtain ⟨p, q, hA0, hV, rfl, hfz, hnd⟩ := hW
  have hA : DataW.TrodAll enc Tryd.prog W 0 (fun _ => true) true Tryd.f6.params.toList args.toList ds p := hA0
  rw [Tryd.params6] at hA hval
  obtain ⟨v0, vs0, d0, ds0, p0, q0, hargs, rfl, rfl, h0, r0⟩ := trodAll_cons hA
  obtain ⟨v1, vs1, d1, ds1, p1, q1, rfl, rfl, rfl, h1, r1⟩ := trodAll_cons r0
  obtain ⟨v2, vs2, d2, ds2, p2, q2, rfl, rfl, rfl, h2, r2⟩ := trodAll_cons r1
  obtain ⟨rfl, rfl, rfl⟩ := trodAll_nil r2
  obtain rfl : args = #[v0, v1, v2] := by cases args; simp_all
  obtain ⟨a0, len0, cap0, rfl⟩ := okWide_slice Tryd.underlying22 (hval 0 22 v0 rfl rfl)
  have k0 := h0
  have lt0 : ∀ x ∈ p0, x.block < W.heap.size := by obtain ⟨m, hm⟩ := k0; exact DataW.trod_lt m _ _ _ hm
  obtain ⟨l0, ga0, gb0, gc0⟩ : ∃ es, Tr.ElemsAt W 0 (.slice a0 len0 cap0) es ∧ Tr.OkE es ∧ es.length ≤ maxLen := by
    obtain ⟨fuel, hf⟩ := h0
    exact Tr.open_elems (by simpa [Value.cells] using hf)
  obtain ⟨x1, rfl, rfl, rfl, wx1⟩ := open_int Tryd.underlying2 (hval 1 2 v1 rfl rfl) h1
  obtain ⟨s2, rfl, rfl, rfl, ws2⟩ := open_string Tryd.underlying9 (hval 2 9 v2 rfl rfl) h2
  clear hA0
  refine (walk l0 _ x1 s2 W gc0 gb0 ga0 ws2 hent).mono fun e W' ⟨he, bel⟩ => ?_
  subst he
  have hV0 := hV
  obtain ⟨g, t, cs, fuel, dv, pv, rfl, hg, ht, hvar, hd, rfl⟩ := trodVars_one hV
  have hv' := Below.trodVars Esc.laidOut bel (ns := Rows.fnExactValueOfSpec.vars) (by kernel_rfl) hV0
  exact ⟨_, rfl, _, _, _, [], _, _, hW', trodAll_mk1 (shut_bool Tryd.underlying4 _), (trodAll_cons_mk (Below.trod Esc.laidOut (by kernel_rfl) (of_decide_eq_true (by kernel_rfl)) k0 bel lt0) (trodAll_cons_mk (shut_int Tryd.underlying2 wx1) (trodAll_cons_mk (shut_string Tryd.underlying9 ws2) trodAll_mk0))), hv', bel.frame _, fun h => by cases h⟩
theorem laid_met (os : Os) : laidMet Tryd.prog Rows.fnExactValueOfRow.laid ((Esc.laidOver (World.holding Tryd.prog os ⟨#[], #[], []⟩)).forCall (fun _ _ => 0) ⟨#[], #[.slice Option.none 0 0, .int .i64 0, .string ByteArray.empty], []⟩).memory :=
  laidMet_of_run' 8 (by kernel_rfl) (by kernel_rfl)
theorem reads (os : Os) {H : Type} (enc : TypeId × Value → H) : ∃ places, DataW.whole enc Tryd.prog ((Esc.laidOver (World.holding Tryd.prog os ⟨#[], #[], []⟩)).forCall (fun _ _ => 0) ⟨#[], #[.slice Option.none 0 0, .int .i64 0, .string ByteArray.empty], []⟩).memory Tryd.f6.params.toList Rows.fnExactValueOfSpec.vars false #[Value.slice Option.none 0 0, Value.int .i64 0, Value.string ByteArray.empty].toList 8 = some ([.nil, .lit (.int .i64 0), .lit (.string [])], [Rows.laid_loop_example_g00343_impl_entities], places) :=
  ⟨MemPlace.row ⟨0, 0, Option.none⟩ 15, by kernel_rfl⟩
set_option maxRecDepth 100000 in
theorem lifted (os : Os) (started : os.Started) (H : Type) (enc : TypeId × Value → H) (F : Stop.Interp) :
    ReturnsInHanded {} Tryd.checked os 6 .any ((OpenSpec.ofChange Rows.fnExactValueOfSpec).preRow enc Tryd.prog Tryd.f6 Rows.fnExactValueOfRow.domain false Rows.fnExactValueOfRow.laid) (((OpenSpec.ofChange Rows.fnExactValueOfSpec).at F).post enc Tryd.prog Tryd.f6 false true false false) := by
  obtain ⟨places, hx⟩ := reads os enc
  refine returnsInHanded_of_row (C := Tryd.checked) (s := OpenSpec.ofChange Rows.fnExactValueOfSpec) Esc.own started (by kernel_rfl) Tryd.func6
    (witness_row_at (enc := enc) (C := Tryd.checked) false (Esc.laidOver (World.holding Tryd.prog os ⟨#[], #[], []⟩)) #[.slice Option.none 0 0, .int .i64 0, .string ByteArray.empty] rfl (by kernel_rfl) (by kernel_rfl) (by kernel_rfl)
      (OpenSpec.preRow_of_cond 8 hx (by kernel_rfl) (fun k hk => by cases hk) (by kernel_rfl) (laid_met os))) ?_
  intro W base args ds gs before hval hW _ _ _ hL _ _
  exact contract H enc W base args ds gs before hval hW hL
theorem said : Rows.FnExactValueOfSaid :=
  OpenClaim.holds_of_cond 6 Tryd.f6 rfl rfl rfl rfl rfl rfl rfl ⟨rfl, rfl, rfl, rfl, rfl⟩ rfl rfl rfl rfl rfl (by kernel_rfl) Tryd.func6 (by kernel_rfl)
    (of_decide_eq_true (by kernel_rfl)) (by unfold Func.isWrapper; first | (rw [if_pos (by decide +kernel)]; kernel_rfl) | (rw [if_neg (by decide +kernel)]; exact ⟨rfl, rfl⟩))
    (fun os started H enc _ F => by rw [OpenClaim.pre_eq_preRow]; exact lifted os started H enc F)
set_option maxRecDepth 100000 in
theorem plain (f : FuncId) (fn : Func) (hf : Tryd.pinned.checked.prog.funcNamed "loop.example/g00343/laws.FnExactValueOf" = some f) (hfn : Tryd.pinned.checked.prog.funcs[f]? = some fn) :
    false = Tryd.pinned.checked.prog.looks [] ∧ ∀ (j : Nat) t, fn.params[j]? = some t → Tryd.pinned.checked.prog.wantsStandIn t = false := by
  obtain rfl : f = 6 := Option.some.inj ((show Tryd.prog.funcNamed "loop.example/g00343/laws.FnExactValueOf" = some 6 by kernel_rfl).symm.trans hf) |>.symm
  obtain rfl : fn = Tryd.f6 := (Option.some.inj (Tryd.func6.symm.trans hfn)).symm
  refine ⟨by kernel_rfl, fun j t ht => ?_⟩
  rw [Tryd.params6] at ht
  have hm : t = 22 ∨ t = 2 ∨ t = 9 := by simpa using Array.mem_of_getElem? ht
  rcases hm with rfl | rfl | rfl
  · exact (show Tryd.prog.wantsStandIn 22 = false by kernel_rfl)
  · exact (show Tryd.prog.wantsStandIn 2 = false by kernel_rfl)
  · exact (show Tryd.prog.wantsStandIn 9 = false by kernel_rfl)
end VaL
theorem fnExactValueOf_card : Rows.FnExactValueOfCardSaid :=
  Claim7.holds_tied_plain_at .later [] _ _ _ _ VaL.said (fun _ h => by cases h) (by kernel_rfl) (fun _ h => by cases h) fnExactValueOf_row_tie rfl ⟨rfl, rfl⟩ (by kernel_rfl) rfl VaL.plain (by kernel_rfl)
#print axioms fnExactValueOf_card
end Go.Proofs.YtlnmegfcecpfmahDoor
