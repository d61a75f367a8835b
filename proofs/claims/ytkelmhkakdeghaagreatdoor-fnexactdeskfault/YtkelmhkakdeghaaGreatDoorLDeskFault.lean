/- Whatever desk is handed in, DeskFault answers as the specification's DeskFault does, and it reads afterwards as before. Condition, tied to the program's own text: the table of rules holds what its initialiser lays. -/
import Derived.Test.YtkelmhkakdeghaaGreatDoorJDF13
import Derived.Test.YtkelmhkakdeghaaGreatDoorJDF44
import Derived.Test.YtkelmhkakdeghaaGreatDoorJDF47
import Derived.Test.YtkelmhkakdeghaaGreatDoorJDF48
import Derived.Deep.RegionHeld3
namespace Go.Proofs.YtkelmhkakdeghaaGreatDoor
open Go.ChangeShapes Go.WideShapes Go.ChangeAt Go.RowKit Go.Deep
open Go.ChangeMaps (open_string shut_string)
set_option linter.unusedVariables false
set_option linter.unusedSimpArgs false
namespace DfL
open Ex (hid)
open Pf (Rul)
open Dk (DeskD deskC)
theorem blk_below {w w' : World} {b : Nat} {o : Obj} (h : w.heap[b]? = some o) (hb : Below w.heap.size w w') : w'.heap[b]? = some o := (hb.block b (Ch.blk_lt h)).trans h
theorem to1 (B : Nat) (e : DeskD) (vp vi vc : Value) (w : World) (hl : Dk.Small 1048576 e) (ha : Dk.At w B vp vi vc e) :
    Calls Tryz.prog 27 #[.agg #[vp, vi, .int .i64 e.eng.now, vc]] w fun z w' => ∃ up ui uc, z = .returned (.agg #[up, ui, .int .i64 e.eng.now, uc]) ∧ Dk.At w' w.heap.size up ui uc e ∧ Below w.heap.size w w' :=
  (Dk.to2 B e vp vi vc w hl ha).mono (fun z w' ⟨up, ui, uc, h1, h2, _, h4⟩ => ⟨up, ui, uc, h1, h2, h4⟩)
set_option maxRecDepth 100000 in
set_option maxHeartbeats 16000000 in
theorem walk (g : DeskD) (v1 v2 v3 : Value) (w : World) (kg : Dk.Ok g) (h1 : Dk.At w 0 v1 v2 v3 g) (hr : Rul w) :
    Calls Tryz.prog 5 #[.agg #[v1, v2, .int .i64 g.eng.now, v3]] w fun e w' => e = .returned (.bool true) ∧ Below w.heap.size w w' := by
  have hgl := hr.lt
  obtain ⟨⟨a1, c1, rfl⟩, ⟨a2, c2, rfl⟩, a3, c3, rfl⟩ := h1.slices
  obtain ⟨w0, e0⟩ : ∃ w0, w0 = w.alloc (.cells #[.slice a1 g.eng.procs.length c1, .slice a2 g.eng.insts.length c2, .int .i64 g.eng.now, .slice a3 g.claims.length c3] 48) := ⟨_, rfl⟩
  have hb0 : Below w.heap.size w w0 := by rw [e0]; exact (Below.refl _ w).alloc (Nat.le_refl _) _
  have hk0 : w0.heap[w.heap.size]? = some (.cells #[.slice a1 g.eng.procs.length c1, .slice a2 g.eng.insts.length c2, .int .i64 g.eng.now, .slice a3 g.claims.length c3] 48) := by rw [e0]; exact Ch.new_blk _ _
  have HZ1 := hid (Dk.sz 0 g _ _ _ 1048576 w0 (by omega) (by omega) kg (h1.below hb0))
  have H1 := hid h1
  have HR := hid hr
  have HB0 := hid hb0
  clear h1 kg hr hb0
  go_enter Tryz.func5, Tryz.ntmps5
  go_wp2_with fail
  rw [← e0]
  clear e0
  refine HZ1.out.mono ?_
  rintro e w1 ⟨⟨r1, rfl, r1a, r1b, r1c⟩, hb1⟩
  have HB1 := hid (HB0.out.trans (hb1.mono HB0.out.size))
  have HK1 : Hid (w1.heap[w.heap.size]? = some (.cells #[.slice a1 g.eng.procs.length c1, .slice a2 g.eng.insts.length c2, .int .i64 g.eng.now, .slice a3 g.claims.length c3] 48)) := hid (blk_below hk0 hb1)
  clear hb1 hk0 HZ1 HB0
  by_cases q1 : r1 < 0
  · go_wp2
    go_ret
    exact ⟨rfl, HB1.out⟩
  have S1 := hid (r1c (by omega))
  clear r1c
  have HC1 := hid (fun w' (hb : Below w.heap.size w w') => to1 0 g _ _ _ w' S1.out (H1.out.below hb))
  clear H1
  have d0 := Ch.blk_cell HK1.out 0
  have d1 := Ch.blk_cell HK1.out 1
  have d2 := Ch.blk_cell HK1.out 2
  have d3 := Ch.blk_cell HK1.out 3
  have lk := Ch.blk_lt HK1.out
  go_wp2_with fail
  refine (HC1.out _ HB1.out).mono ?_
  rintro e w2 ⟨p1, p2, p3, rfl, hu, hb2⟩
  obtain ⟨⟨s1, t1, rfl⟩, ⟨s2, t2, rfl⟩, s3, t3, rfl⟩ := hu.slices
  have HSP := hid (Dk.specDeskFault _ g _ _ _ w2 S1.out hu)
  have HB2 := hid (HB1.out.trans (hb2.mono HB1.out.size))
  have HK2 : Hid (w2.heap[w.heap.size]? = some (.cells #[.slice a1 g.eng.procs.length c1, .slice a2 g.eng.insts.length c2, .int .i64 g.eng.now, .slice a3 g.claims.length c3] 48)) := hid (blk_below HK1.out hb2)
  clear hu hb2 HK1 HB1 d0 d1 d2 d3 lk
  go_wp2_with fail
  refine HSP.out.mono ?_
  rintro e w3 ⟨rfl, hb3⟩
  have HB3 := hid (HB2.out.trans (hb3.mono HB2.out.size))
  have HK3 : Hid (w3.heap[w.heap.size]? = some (.cells #[.slice a1 g.eng.procs.length c1, .slice a2 g.eng.insts.length c2, .int .i64 g.eng.now, .slice a3 g.claims.length c3] 48)) := hid (blk_below HK2.out hb3)
  clear hb3 HK2 HB2 HSP
  generalize hcc : deskC g = cc at *
  have HCC := hid hcc
  clear hcc
  have d0 := Ch.blk_cell HK3.out 0
  have d1 := Ch.blk_cell HK3.out 1
  have d2 := Ch.blk_cell HK3.out 2
  have d3 := Ch.blk_cell HK3.out 3
  have lk := Ch.blk_lt HK3.out
  go_wp2_with fail
  refine (HC1.out _ HB3.out).mono ?_
  rintro e w4 ⟨p1, p2, p3, rfl, hu, hb4⟩
  obtain ⟨⟨x1, y1, rfl⟩, ⟨x2, y2, rfl⟩, x3, y3, rfl⟩ := hu.slices
  obtain ⟨w5, e5⟩ : ∃ w5, w5 = w4.alloc (.cells #[.slice x1 g.eng.procs.length y1, .slice x2 g.eng.insts.length y2, .int .i64 g.eng.now, .slice x3 g.claims.length y3] 53) := ⟨_, rfl⟩
  have hb5 : Below w4.heap.size w4 w5 := by rw [e5]; exact (Below.refl _ w4).alloc (Nat.le_refl _) _
  have HX5 : Hid (w5.heap[w4.heap.size]? = some (.cells #[.slice x1 g.eng.procs.length y1, .slice x2 g.eng.insts.length y2, .int .i64 g.eng.now, .slice x3 g.claims.length y3] 53)) := hid (by rw [e5]; exact Ch.new_blk _ _)
  have HB4 := hid (HB3.out.trans (hb4.mono HB3.out.size))
  have HB5 := hid (HB4.out.trans (hb5.mono HB4.out.size))
  have HU5 := hid ((hu.mono (Nat.zero_le _)).below hb5)
  have HK5 : Hid (w5.heap[w.heap.size]? = some (.cells #[.slice a1 g.eng.procs.length c1, .slice a2 g.eng.insts.length c2, .int .i64 g.eng.now, .slice a3 g.claims.length c3] 48)) := hid (blk_below (blk_below HK3.out hb4) hb5)
  have HIM := hid (Dk.implDeskFault g _ _ _ w5 S1.out HU5.out (HR.out.below HB5.out hgl))
  rw [HCC.out] at HIM
  clear hu hb4 hb5 d0 d1 d2 d3 lk HK3 HB3 HB4
  go_wp2_with fail
  rw [← e5]
  clear e5
  refine HIM.out.mono ?_
  rintro e w6 ⟨rfl, hb6⟩
  have hs : (cc != cc) = false := by simp
  have HB6 := hid (HB5.out.trans (hb6.mono HB5.out.size))
  have HX6 : Hid (w6.heap[w4.heap.size]? = some (.cells #[.slice x1 g.eng.procs.length y1, .slice x2 g.eng.insts.length y2, .int .i64 g.eng.now, .slice x3 g.claims.length y3] 53)) := hid (blk_below HX5.out hb6)
  have HK6 : Hid (w6.heap[w.heap.size]? = some (.cells #[.slice a1 g.eng.procs.length c1, .slice a2 g.eng.insts.length c2, .int .i64 g.eng.now, .slice a3 g.claims.length c3] 48)) := hid (blk_below HK5.out hb6)
  have HU6 := hid (HU5.out.below hb6)
  clear HIM hb6 HX5 HK5 HU5 HB5
  have hBd := HB6.out.drew
  have HDd : Hid (w6.drew.heap[w.heap.size]? = some (.cells #[.slice a1 g.eng.procs.length c1, .slice a2 g.eng.insts.length c2, .int .i64 g.eng.now, .slice a3 g.claims.length c3] 48) ∧ w6.drew.heap[w4.heap.size]? = some (.cells #[.slice x1 g.eng.procs.length y1, .slice x2 g.eng.insts.length y2, .int .i64 g.eng.now, .slice x3 g.claims.length y3] 53)) := hid ⟨HK6.out, HX6.out⟩
  have HUd := hid (HU6.out.below (Below.refl _ w6).drew)
  clear HX6 HK6 HU6 HB6
  go_wp2
  refine wp_region_held_drew (S := fun wx => wx.heap[w.heap.size]? = some (.cells #[.slice a1 g.eng.procs.length c1, .slice a2 g.eng.insts.length c2, .int .i64 g.eng.now, .slice a3 g.claims.length c3] 48) ∧ wx.heap[w4.heap.size]? = some (.cells #[.slice x1 g.eng.procs.length y1, .slice x2 g.eng.insts.length y2, .int .i64 g.eng.now, .slice x3 g.claims.length y3] 53)) (by kernel_rfl) HDd.out (fun hHeld => ?_)
  refine wpAnyH_take (i := 0) (v := .agg #[.slice x1 g.eng.procs.length y1, .slice x2 g.eng.insts.length y2, .int .i64 g.eng.now, .slice x3 g.claims.length y3]) rfl (by kernel_rfl) (by kernel_rfl) (by kernel_rfl) (fun _ _ _ h => h) (Or.inl ⟨by kernel_rfl, by intro w hSw; (try dsimp only at hSw); have m0 := Ch.blk_cell hSw.2 0; have m1 := Ch.blk_cell hSw.2 1; have m2 := Ch.blk_cell hSw.2 2; have m3 := Ch.blk_cell hSw.2 3; clear hSw; go_simp⟩) (by assumption) ?_
  simp only [Act.put, List.setIfInBounds_toArray, List.set_cons_zero, List.set_cons_succ]
  refine wpAnyH_take (i := 1) (v := .agg #[.slice a1 g.eng.procs.length c1, .slice a2 g.eng.insts.length c2, .int .i64 g.eng.now, .slice a3 g.claims.length c3]) rfl (by kernel_rfl) (by kernel_rfl) (by kernel_rfl) (fun _ _ _ h => h) (Or.inl ⟨by kernel_rfl, by intro w hSw; (try dsimp only at hSw); have m0 := Ch.blk_cell hSw.1 0; have m1 := Ch.blk_cell hSw.1 1; have m2 := Ch.blk_cell hSw.1 2; have m3 := Ch.blk_cell hSw.1 3; clear hSw; go_simp⟩) (by assumption) ?_
  simp only [Act.put, List.setIfInBounds_toArray, List.set_cons_zero, List.set_cons_succ]
  refine wpAnyH_ready (rs := [2]) (by kernel_rfl) (by simp) ?_
  refine AllReadyH.cons rfl (fun K hK => ?_) AllReadyH.nil
  go_simp
  go_at_call 27
  refine (HC1.out _ hBd).mono ?_
  rintro e wc ⟨p1, p2, p3, rfl, hu, hbc⟩
  obtain ⟨⟨z1, t1, rfl⟩, ⟨z2, t2, rfl⟩, z3, t3, rfl⟩ := hu.slices
  have HEC := hid (Dk.eq _ _ g _ _ _ _ _ _ wc S1.out (HUd.out.below hbc) hu)
  have hBc := hBd.trans (hbc.mono hBd.size)
  have HDc : Hid (wc.heap[w.heap.size]? = some (.cells #[.slice a1 g.eng.procs.length c1, .slice a2 g.eng.insts.length c2, .int .i64 g.eng.now, .slice a3 g.claims.length c3] 48) ∧ wc.heap[w4.heap.size]? = some (.cells #[.slice x1 g.eng.procs.length y1, .slice x2 g.eng.insts.length y2, .int .i64 g.eng.now, .slice x3 g.claims.length y3] 53)) := hid ⟨blk_below HDd.out.1 hbc, blk_below HDd.out.2 hbc⟩
  clear hu hbc
  go_wp2_with fail
  refine hK.out _ _ HDc.out (fun hHeld => ?_)
  clear hK K
  try simp only [Act.put, List.setIfInBounds_toArray, List.set_cons_zero, List.set_cons_succ]
  refine wpAnyH_ready (rs := [3]) (by kernel_rfl) (by simp) ?_
  refine AllReadyH.cons rfl (fun K hK => ?_) AllReadyH.nil
  go_simp
  go_at_call 29
  refine HEC.out.mono ?_
  rintro e we ⟨rfl, hbe⟩
  have hBe := hBc.trans (hbe.mono hBc.size)
  have HDe : Hid (we.heap[w.heap.size]? = some (.cells #[.slice a1 g.eng.procs.length c1, .slice a2 g.eng.insts.length c2, .int .i64 g.eng.now, .slice a3 g.claims.length c3] 48) ∧ we.heap[w4.heap.size]? = some (.cells #[.slice x1 g.eng.procs.length y1, .slice x2 g.eng.insts.length y2, .int .i64 g.eng.now, .slice x3 g.claims.length y3] 53)) := hid ⟨blk_below HDc.out.1 hbe, blk_below HDc.out.2 hbe⟩
  clear hbe
  go_wp2_with fail
  refine hK.out _ _ HDe.out (fun hHeld => ?_)
  clear hK K
  try simp only [Act.put, List.setIfInBounds_toArray, List.set_cons_zero, List.set_cons_succ]
  refine wpAnyH_take (i := 4) (v := .bool false) rfl (by kernel_rfl) (by kernel_rfl) (by kernel_rfl) (fun _ _ _ h => h) (Or.inl ⟨by kernel_rfl, by intro w hSw; (try dsimp only at hSw); go_simp⟩) (by assumption) ?_
  simp only [Act.put, List.setIfInBounds_toArray, List.set_cons_zero, List.set_cons_succ]
  refine wpAnyH_done (by kernel_rfl) ?_ _
  go_wp2
  go_ret
  exact ⟨rfl, hBe⟩
set_option maxRecDepth 100000 in
theorem contract (H : Type) (enc : TypeId × Value → H) (W : World) (base : Nat) (args : Array Value) (ds gs : List (DataW H)) (before : List MemPlace)
    (hval : ∀ (j : Nat) t v, Tryz.f5.params[j]? = some t → args[j]? = some v → Value.okWide Tryz.prog W .any base t v)
    (hW : DataW.Whole enc Tryz.prog Tryz.f5.params.toList Rows.fnExactDeskFaultSpec.vars false W args.toList ds gs before) (hL : laidMetH Tryz.prog Rows.fnExactDeskFaultRow.laid W) :
    Calls Tryz.prog 5 args W fun e W' => ∃ v, e = .returned v ∧ Rows.fnExactDeskFaultSpec.post enc Tryz.prog Tryz.f5 false true false false W args v W' := by
  have hent := Crd.rul_of hL
  have hW' := hW
  obtain ⟨p, q, hA0, hV, rfl, hfz, hnd⟩ := hW
  have hA : DataW.TrodAll enc Tryz.prog W 0 (fun _ => true) true Tryz.f5.params.toList args.toList ds p := hA0
  rw [Tryz.params5] at hA hval
  obtain ⟨v0, vs0, d0, ds0, p0, q0, hargs, rfl, rfl, h0, r0⟩ := trodAll_cons hA
  obtain ⟨rfl, rfl, rfl⟩ := trodAll_nil r0
  obtain rfl : args = #[v0] := by cases args; simp_all
  obtain ⟨cs0, rfl, _⟩ := okWide_struct Tryz.underlying48 (hval 0 48 v0 rfl rfl)
  have k0 := h0
  have lt0 : ∀ x ∈ p0, x.block < W.heap.size := by obtain ⟨m, hm⟩ := k0; exact DataW.trod_lt m _ _ _ hm
  obtain ⟨g0, n0, f0, m0, hc0, ga0, gk0⟩ : ∃ (g : Dk.DeskD) (vn vf vm : Value), cs0.toList = [vn, vf, .int .i64 g.eng.now, vm] ∧ Dk.At W 0 vn vf vm g ∧ Dk.Ok g := by
    obtain ⟨fuel, hf⟩ := h0
    exact Dk.open_all (by simpa [Value.cells] using hf)
  obtain rfl : cs0 = #[n0, f0, .int .i64 g0.eng.now, m0] := by cases cs0; simp_all
  clear hA0
  refine (walk g0 _ _ _ W gk0 ga0 hent).mono fun e W' ⟨he, bel⟩ => ?_
  subst he
  have hV0 := hV
  obtain ⟨g, t, cs, fuel, dv, pv, rfl, hg, ht, hvar, hd, rfl⟩ := trodVars_one hV
  have hv' := Below.trodVars Crd.laidOut bel (ns := Rows.fnExactDeskFaultSpec.vars) (by kernel_rfl) hV0
  exact ⟨_, rfl, _, _, _, [], _, _, hW', trodAll_mk1 (shut_bool Tryz.underlying4 _), (trodAll_cons_mk (Below.trod Crd.laidOut (by kernel_rfl) (of_decide_eq_true (by kernel_rfl)) k0 bel lt0) trodAll_mk0), hv', bel.frame _, fun h => by cases h⟩
theorem laid_met (os : Os) : laidMet Tryz.prog Rows.fnExactDeskFaultRow.laid ((Crd.laidOver (World.holding Tryz.prog os ⟨#[], #[], []⟩)).forCall (fun _ _ => 0) ⟨#[], #[.agg #[.slice Option.none 0 0, .slice Option.none 0 0, .int .i64 0, .slice Option.none 0 0]], []⟩).memory :=
  laidMet_of_run' 8 (by kernel_rfl) (by kernel_rfl)
theorem reads (os : Os) {H : Type} (enc : TypeId × Value → H) : ∃ places, DataW.whole enc Tryz.prog ((Crd.laidOver (World.holding Tryz.prog os ⟨#[], #[], []⟩)).forCall (fun _ _ => 0) ⟨#[], #[.agg #[.slice Option.none 0 0, .slice Option.none 0 0, .int .i64 0, .slice Option.none 0 0]], []⟩).memory Tryz.f5.params.toList Rows.fnExactDeskFaultSpec.vars false #[Value.agg #[Value.slice Option.none 0 0, Value.slice Option.none 0 0, Value.int .i64 0, Value.slice Option.none 0 0]].toList 8 = some ([.agg [.agg [.nil, .nil, .lit (.int .i64 0)], .nil]], [Rows.laid_loop_example_g00343_impl_stepRules], places) :=
  ⟨MemPlace.row ⟨0, 0, Option.none⟩ 56, by kernel_rfl⟩
set_option maxRecDepth 100000 in
theorem lifted (os : Os) (started : os.Started) (H : Type) (enc : TypeId × Value → H) (F : Stop.Interp) :
    ReturnsInHanded {} Tryz.checked os 5 .any ((OpenSpec.ofChange Rows.fnExactDeskFaultSpec).preRow enc Tryz.prog Tryz.f5 Rows.fnExactDeskFaultRow.domain false Rows.fnExactDeskFaultRow.laid) (((OpenSpec.ofChange Rows.fnExactDeskFaultSpec).at F).post enc Tryz.prog Tryz.f5 false true false false) := by
  obtain ⟨places, hx⟩ := reads os enc
  refine returnsInHanded_of_row (C := Tryz.checked) (s := OpenSpec.ofChange Rows.fnExactDeskFaultSpec) Crd.own started (by kernel_rfl) Tryz.func5
    (witness_row_at (enc := enc) (C := Tryz.checked) false (Crd.laidOver (World.holding Tryz.prog os ⟨#[], #[], []⟩)) #[.agg #[.slice Option.none 0 0, .slice Option.none 0 0, .int .i64 0, .slice Option.none 0 0]] rfl (by kernel_rfl) (by kernel_rfl) (by kernel_rfl)
      (OpenSpec.preRow_of_cond 8 hx (by kernel_rfl) (fun k hk => by cases hk) (by kernel_rfl) (laid_met os))) ?_
  intro W base args ds gs before hval hW _ _ _ hL _ _
  exact contract H enc W base args ds gs before hval hW hL
theorem said : Rows.FnExactDeskFaultSaid :=
  OpenClaim.holds_of_cond 5 Tryz.f5 rfl rfl rfl rfl rfl rfl rfl ⟨rfl, rfl, rfl, rfl, rfl⟩ rfl rfl rfl rfl rfl (by kernel_rfl) Tryz.func5 (by kernel_rfl)
    (of_decide_eq_true (by kernel_rfl)) (by unfold Func.isWrapper; first | (rw [if_pos (by decide +kernel)]; kernel_rfl) | (rw [if_neg (by decide +kernel)]; exact ⟨rfl, rfl⟩))
    (fun os started H enc _ F => by rw [OpenClaim.pre_eq_preRow]; exact lifted os started H enc F)
set_option maxRecDepth 100000 in
theorem plain (f : FuncId) (fn : Func) (hf : Tryz.pinned.checked.prog.funcNamed "loop.example/g00343/laws.FnExactDeskFault" = some f) (hfn : Tryz.pinned.checked.prog.funcs[f]? = some fn) :
    true = Tryz.pinned.checked.prog.looks [] ∧ ∀ (j : Nat) t, fn.params[j]? = some t → Tryz.pinned.checked.prog.wantsStandIn t = false := by
  obtain rfl : f = 5 := Option.some.inj ((show Tryz.prog.funcNamed "loop.example/g00343/laws.FnExactDeskFault" = some 5 by kernel_rfl).symm.trans hf) |>.symm
  obtain rfl : fn = Tryz.f5 := (Option.some.inj (Tryz.func5.symm.trans hfn)).symm
  refine ⟨by kernel_rfl, fun j t ht => ?_⟩
  rw [Tryz.params5] at ht
  obtain rfl : t = 48 := by simpa using Array.mem_of_getElem? ht
  exact (show Tryz.prog.wantsStandIn 48 = false by kernel_rfl)
end DfL
theorem fnExactDeskFault_card : Rows.FnExactDeskFaultCardSaid :=
  Claim7.holds_tied_plain_at .later [] _ _ _ _ DfL.said (fun _ h => by cases h) (by kernel_rfl) (fun _ h => by cases h) fnExactDeskFault_row_tie rfl ⟨rfl, rfl⟩ (by kernel_rfl) rfl DfL.plain (by kernel_rfl)
#print axioms fnExactDeskFault_card
end Go.Proofs.YtkelmhkakdeghaaGreatDoor
