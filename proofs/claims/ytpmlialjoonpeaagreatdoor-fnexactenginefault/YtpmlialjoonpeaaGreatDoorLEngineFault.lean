/- Whatever engine is handed in, EngineFault answers as the specification's EngineFault does, and it reads afterwards as before. Condition, tied to the program's own text: the table of rules holds what its initialiser lays. -/
import Derived.Test.YtpmlialjoonpeaaGreatDoorJEF16
import Derived.Test.YtpmlialjoonpeaaGreatDoorJEF47
import Derived.Test.YtpmlialjoonpeaaGreatDoorJEF50
import Derived.Deep.RegionHeld3
namespace Go.Proofs.YtpmlialjoonpeaaGreatDoor
open Go.ChangeShapes Go.WideShapes Go.ChangeAt Go.RowKit Go.Deep
open Go.ChangeMaps (open_string shut_string)
set_option linter.unusedVariables false
set_option linter.unusedSimpArgs false
namespace EfL
open Ex (hid)
open Pf (Rul)
open En (EngD)
open Eg (engC)
theorem blk_below {w w' : World} {b : Nat} {o : Obj} (h : w.heap[b]? = some o) (hb : Below w.heap.size w w') : w'.heap[b]? = some o := (hb.block b (Ch.blk_lt h)).trans h
theorem to1 (B : Nat) (e : EngD) (vp vi : Value) (w : World) (hl : En.Small 1048576 e) (ha : En.At w B vp vi e) :
    Calls Tryz.prog 12 #[.agg #[vp, vi, .int .i64 e.now]] w fun z w' => ∃ up ui, z = .returned (.agg #[up, ui, .int .i64 e.now]) ∧ En.At w' w.heap.size up ui e ∧ Below w.heap.size w w' :=
  (En.to2 B e vp vi w hl ha).mono (fun z w' ⟨up, ui, h1, h2, _, h4⟩ => ⟨up, ui, h1, h2, h4⟩)
set_option maxRecDepth 100000 in
set_option maxHeartbeats 16000000 in
theorem walk (g : EngD) (v1 v2 : Value) (w : World) (kg : En.Ok g) (h1 : En.At w 0 v1 v2 g) (hr : Rul w) :
    Calls Tryz.prog 3 #[.agg #[v1, v2, .int .i64 g.now]] w fun e w' => e = .returned (.bool true) ∧ Below w.heap.size w w' := by
  have hgl := hr.lt
  obtain ⟨a1, c1, rfl⟩ := h1.procs.slice
  obtain ⟨a2, c2, rfl⟩ := h1.insts.slice
  obtain ⟨w0, e0⟩ : ∃ w0, w0 = w.alloc (.cells #[.slice a1 g.procs.length c1, .slice a2 g.insts.length c2, .int .i64 g.now] 25) := ⟨_, rfl⟩
  have hb0 : Below w.heap.size w w0 := by rw [e0]; exact (Below.refl _ w).alloc (Nat.le_refl _) _
  have hk0 : w0.heap[w.heap.size]? = some (.cells #[.slice a1 g.procs.length c1, .slice a2 g.insts.length c2, .int .i64 g.now] 25) := by rw [e0]; exact Ch.new_blk _ _
  have HZ1 := hid (En.sz 0 g _ _ 1048576 w0 (by omega) (by omega) kg (h1.below hb0))
  have H1 := hid h1
  have HR := hid hr
  have HB0 := hid hb0
  clear h1 kg hr hb0
  go_enter Tryz.func3, Tryz.ntmps3
  go_wp2_with fail
  rw [← e0]
  clear e0
  refine HZ1.out.mono ?_
  rintro e w1 ⟨⟨r1, rfl, r1a, r1b, r1c⟩, hb1⟩
  have HB1 := hid (HB0.out.trans (hb1.mono HB0.out.size))
  have HK1 : Hid (w1.heap[w.heap.size]? = some (.cells #[.slice a1 g.procs.length c1, .slice a2 g.insts.length c2, .int .i64 g.now] 25)) := hid (blk_below hk0 hb1)
  clear hb1 hk0 HZ1 HB0
  by_cases q1 : r1 < 0
  · go_wp2
    go_ret
    exact ⟨rfl, HB1.out⟩
  have S1 := hid (r1c (by omega))
  clear r1c
  have HC1 := hid (fun w' (hb : Below w.heap.size w w') => to1 0 g _ _ w' S1.out (H1.out.below hb))
  clear H1
  have d0 := Ch.blk_cell HK1.out 0
  have d1 := Ch.blk_cell HK1.out 1
  have d2 := Ch.blk_cell HK1.out 2
  have lk := Ch.blk_lt HK1.out
  go_wp2_with fail
  refine (HC1.out _ HB1.out).mono ?_
  rintro e w2 ⟨p1, p2, rfl, hu, hb2⟩
  obtain ⟨s1, t1, rfl⟩ := hu.procs.slice
  obtain ⟨s2, t2, rfl⟩ := hu.insts.slice
  have HSP := hid (Eg.specEngineFault _ g _ _ w2 S1.out hu)
  have HB2 := hid (HB1.out.trans (hb2.mono HB1.out.size))
  have HK2 : Hid (w2.heap[w.heap.size]? = some (.cells #[.slice a1 g.procs.length c1, .slice a2 g.insts.length c2, .int .i64 g.now] 25)) := hid (blk_below HK1.out hb2)
  clear hu hb2 HK1 HB1 d0 d1 d2 lk
  go_wp2_with fail
  refine HSP.out.mono ?_
  rintro e w3 ⟨rfl, hb3⟩
  have HB3 := hid (HB2.out.trans (hb3.mono HB2.out.size))
  have HK3 : Hid (w3.heap[w.heap.size]? = some (.cells #[.slice a1 g.procs.length c1, .slice a2 g.insts.length c2, .int .i64 g.now] 25)) := hid (blk_below HK2.out hb3)
  clear hb3 HK2 HB2 HSP
  generalize hcc : engC g = cc at *
  have HCC := hid hcc
  clear hcc
  have d0 := Ch.blk_cell HK3.out 0
  have d1 := Ch.blk_cell HK3.out 1
  have d2 := Ch.blk_cell HK3.out 2
  have lk := Ch.blk_lt HK3.out
  go_wp2_with fail
  refine (HC1.out _ HB3.out).mono ?_
  rintro e w4 ⟨p1, p2, rfl, hu, hb4⟩
  obtain ⟨x1, y1, rfl⟩ := hu.procs.slice
  obtain ⟨x2, y2, rfl⟩ := hu.insts.slice
  obtain ⟨w5, e5⟩ : ∃ w5, w5 = w4.alloc (.cells #[.slice x1 g.procs.length y1, .slice x2 g.insts.length y2, .int .i64 g.now] 31) := ⟨_, rfl⟩
  have hb5 : Below w4.heap.size w4 w5 := by rw [e5]; exact (Below.refl _ w4).alloc (Nat.le_refl _) _
  have HX5 : Hid (w5.heap[w4.heap.size]? = some (.cells #[.slice x1 g.procs.length y1, .slice x2 g.insts.length y2, .int .i64 g.now] 31)) := hid (by rw [e5]; exact Ch.new_blk _ _)
  have HB4 := hid (HB3.out.trans (hb4.mono HB3.out.size))
  have HB5 := hid (HB4.out.trans (hb5.mono HB4.out.size))
  have HU5 := hid ((hu.mono (Nat.zero_le _)).below hb5)
  have HK5 : Hid (w5.heap[w.heap.size]? = some (.cells #[.slice a1 g.procs.length c1, .slice a2 g.insts.length c2, .int .i64 g.now] 25)) := hid (blk_below (blk_below HK3.out hb4) hb5)
  have HIM := hid (Eg.implEngineFault g _ _ w5 S1.out HU5.out (HR.out.below HB5.out hgl))
  rw [HCC.out] at HIM
  clear hu hb4 hb5 d0 d1 d2 lk HK3 HB3 HB4
  go_wp2_with fail
  rw [← e5]
  clear e5
  refine HIM.out.mono ?_
  rintro e w6 ⟨rfl, hb6⟩
  have hs : (cc != cc) = false := by simp
  have HB6 := hid (HB5.out.trans (hb6.mono HB5.out.size))
  have HX6 : Hid (w6.heap[w4.heap.size]? = some (.cells #[.slice x1 g.procs.length y1, .slice x2 g.insts.length y2, .int .i64 g.now] 31)) := hid (blk_below HX5.out hb6)
  have HK6 : Hid (w6.heap[w.heap.size]? = some (.cells #[.slice a1 g.procs.length c1, .slice a2 g.insts.length c2, .int .i64 g.now] 25)) := hid (blk_below HK5.out hb6)
  have HU6 := hid (HU5.out.below hb6)
  clear HIM hb6 HX5 HK5 HU5 HB5
  have hBd := HB6.out.drew
  have HDd : Hid (w6.drew.heap[w.heap.size]? = some (.cells #[.slice a1 g.procs.length c1, .slice a2 g.insts.length c2, .int .i64 g.now] 25) ∧ w6.drew.heap[w4.heap.size]? = some (.cells #[.slice x1 g.procs.length y1, .slice x2 g.insts.length y2, .int .i64 g.now] 31)) := hid ⟨HK6.out, HX6.out⟩
  have HUd := hid (HU6.out.below (Below.refl _ w6).drew)
  clear HX6 HK6 HU6 HB6
  go_wp2
  refine wp_region_held_drew (S := fun wx => wx.heap[w.heap.size]? = some (.cells #[.slice a1 g.procs.length c1, .slice a2 g.insts.length c2, .int .i64 g.now] 25) ∧ wx.heap[w4.heap.size]? = some (.cells #[.slice x1 g.procs.length y1, .slice x2 g.insts.length y2, .int .i64 g.now] 31)) (by kernel_rfl) HDd.out (fun hHeld => ?_)
  refine wpAnyH_take (i := 0) (v := .agg #[.slice x1 g.procs.length y1, .slice x2 g.insts.length y2, .int .i64 g.now]) rfl (by kernel_rfl) (by kernel_rfl) (by kernel_rfl) (fun _ _ _ h => h) (Or.inl ⟨by kernel_rfl, by intro w hSw; (try dsimp only at hSw); have m0 := Ch.blk_cell hSw.2 0; have m1 := Ch.blk_cell hSw.2 1; have m2 := Ch.blk_cell hSw.2 2; clear hSw; go_simp⟩) (by assumption) ?_
  simp only [Act.put, List.setIfInBounds_toArray, List.set_cons_zero, List.set_cons_succ]
  refine wpAnyH_take (i := 1) (v := .agg #[.slice a1 g.procs.length c1, .slice a2 g.insts.length c2, .int .i64 g.now]) rfl (by kernel_rfl) (by kernel_rfl) (by kernel_rfl) (fun _ _ _ h => h) (Or.inl ⟨by kernel_rfl, by intro w hSw; (try dsimp only at hSw); have m0 := Ch.blk_cell hSw.1 0; have m1 := Ch.blk_cell hSw.1 1; have m2 := Ch.blk_cell hSw.1 2; clear hSw; go_simp⟩) (by assumption) ?_
  simp only [Act.put, List.setIfInBounds_toArray, List.set_cons_zero, List.set_cons_succ]
  refine wpAnyH_ready (rs := [2]) (by kernel_rfl) (by simp) ?_
  refine AllReadyH.cons rfl (fun K hK => ?_) AllReadyH.nil
  go_simp
  go_at_call 12
  refine (HC1.out _ hBd).mono ?_
  rintro e wc ⟨p1, p2, rfl, hu, hbc⟩
  obtain ⟨z1, t1, rfl⟩ := hu.procs.slice
  obtain ⟨z2, t2, rfl⟩ := hu.insts.slice
  have HEC := hid (En.eq _ _ g _ _ _ _ wc S1.out (HUd.out.below hbc) hu)
  have hBc := hBd.trans (hbc.mono hBd.size)
  have HDc : Hid (wc.heap[w.heap.size]? = some (.cells #[.slice a1 g.procs.length c1, .slice a2 g.insts.length c2, .int .i64 g.now] 25) ∧ wc.heap[w4.heap.size]? = some (.cells #[.slice x1 g.procs.length y1, .slice x2 g.insts.length y2, .int .i64 g.now] 31)) := hid ⟨blk_below HDd.out.1 hbc, blk_below HDd.out.2 hbc⟩
  clear hu hbc
  go_wp2_with fail
  refine hK.out _ _ HDc.out (fun hHeld => ?_)
  clear hK K
  try simp only [Act.put, List.setIfInBounds_toArray, List.set_cons_zero, List.set_cons_succ]
  refine wpAnyH_ready (rs := [3]) (by kernel_rfl) (by simp) ?_
  refine AllReadyH.cons rfl (fun K hK => ?_) AllReadyH.nil
  go_simp
  go_at_call 14
  refine HEC.out.mono ?_
  rintro e we ⟨rfl, hbe⟩
  have hBe := hBc.trans (hbe.mono hBc.size)
  have HDe : Hid (we.heap[w.heap.size]? = some (.cells #[.slice a1 g.procs.length c1, .slice a2 g.insts.length c2, .int .i64 g.now] 25) ∧ we.heap[w4.heap.size]? = some (.cells #[.slice x1 g.procs.length y1, .slice x2 g.insts.length y2, .int .i64 g.now] 31)) := hid ⟨blk_below HDc.out.1 hbe, blk_below HDc.out.2 hbe⟩
  clear hbe
  go_wp2_with fail
  refine hK.out _ _ HDe.out (fun hHeld => ?_)
  clear hK K
  try simp only [Act.put, List.setIfInBounds_toArray, List.set_cons_zero, List.set_cons_succ]
  refine wpAnyH_take (i := 4) (v := .bool false) rfl (by kernel_rfl) (by kernel_rfl) (by kernel_rfl) (fun _ _ _ h => h) (Or.inl ⟨by kernel_rfl, by intro w hSw; (try dsimp only at hSw); go_simp⟩) (by assumption) ?_
  simp only [Act.put, List.setIfInBounds_toArray, List.set_cons_zero, List.set_cons_succ]
  refine wpAnyH_done (by kernel_rfl) ?_ _
  go_wp2
  go_ret
  exact ⟨rfl, hBe⟩
set_option maxRecDepth 100000 in
theorem contract (H : Type) (enc : TypeId × Value → H) (W : World) (base : Nat) (args : Array Value) (ds gs : List (DataW H)) (before : List MemPlace)
    (hval : ∀ (j : Nat) t v, Tryz.f3.params[j]? = some t → args[j]? = some v → Value.okWide Tryz.prog W .any base t v)
    (hW : DataW.Whole enc Tryz.prog Tryz.f3.params.toList Rows.fnExactEngineFaultSpec.vars false W args.toList ds gs before) (hL : laidMetH Tryz.prog Rows.fnExactEngineFaultRow.laid W) :
    Calls Tryz.prog 3 args W fun e W' => ∃ v, e = .returned v ∧ Rows.fnExactEngineFaultSpec.post enc Tryz.prog Tryz.f3 false true false false W args v W' := by
  have hent := Crd.rul_of hL
  have hW' := hW
  obtain ⟨p, q, hA0, hV, rfl, hfz, hnd⟩ := hW
  have hA : DataW.TrodAll enc Tryz.prog W 0 (fun _ => true) true Tryz.f3.params.toList args.toList ds p := hA0
  rw [Tryz.params3] at hA hval
  obtain ⟨v0, vs0, d0, ds0, p0, q0, hargs, rfl, rfl, h0, r0⟩ := trodAll_cons hA
  obtain ⟨rfl, rfl, rfl⟩ := trodAll_nil r0
  obtain rfl : args = #[v0] := by cases args; simp_all
  obtain ⟨cs0, rfl, _⟩ := okWide_struct Tryz.underlying25 (hval 0 25 v0 rfl rfl)
  have k0 := h0
  have lt0 : ∀ x ∈ p0, x.block < W.heap.size := by obtain ⟨m, hm⟩ := k0; exact DataW.trod_lt m _ _ _ hm
  obtain ⟨g0, n0, f0, hc0, ga0, gk0⟩ : ∃ (g : En.EngD) (vn vf : Value), cs0.toList = [vn, vf, .int .i64 g.now] ∧ En.At W 0 vn vf g ∧ En.Ok g := by
    obtain ⟨fuel, hf⟩ := h0
    exact En.open_all (by simpa [Value.cells] using hf)
  obtain rfl : cs0 = #[n0, f0, .int .i64 g0.now] := by cases cs0; simp_all
  clear hA0
  refine (walk g0 _ _ W gk0 ga0 hent).mono fun e W' ⟨he, bel⟩ => ?_
  subst he
  have hV0 := hV
  obtain ⟨g, t, cs, fuel, dv, pv, rfl, hg, ht, hvar, hd, rfl⟩ := trodVars_one hV
  have hv' := Below.trodVars Crd.laidOut bel (ns := Rows.fnExactEngineFaultSpec.vars) (by kernel_rfl) hV0
  exact ⟨_, rfl, _, _, _, [], _, _, hW', trodAll_mk1 (shut_bool Tryz.underlying4 _), (trodAll_cons_mk (Below.trod Crd.laidOut (by kernel_rfl) (of_decide_eq_true (by kernel_rfl)) k0 bel lt0) trodAll_mk0), hv', bel.frame _, fun h => by cases h⟩
theorem laid_met (os : Os) : laidMet Tryz.prog Rows.fnExactEngineFaultRow.laid ((Crd.laidOver (World.holding Tryz.prog os ⟨#[], #[], []⟩)).forCall (fun _ _ => 0) ⟨#[], #[.agg #[.slice Option.none 0 0, .slice Option.none 0 0, .int .i64 0]], []⟩).memory :=
  laidMet_of_run' 8 (by kernel_rfl) (by kernel_rfl)
theorem reads (os : Os) {H : Type} (enc : TypeId × Value → H) : ∃ places, DataW.whole enc Tryz.prog ((Crd.laidOver (World.holding Tryz.prog os ⟨#[], #[], []⟩)).forCall (fun _ _ => 0) ⟨#[], #[.agg #[.slice Option.none 0 0, .slice Option.none 0 0, .int .i64 0]], []⟩).memory Tryz.f3.params.toList Rows.fnExactEngineFaultSpec.vars false #[Value.agg #[Value.slice Option.none 0 0, Value.slice Option.none 0 0, Value.int .i64 0]].toList 8 = some ([.agg [.nil, .nil, .lit (.int .i64 0)]], [Rows.laid_loop_example_g00343_impl_stepRules], places) :=
  ⟨MemPlace.row ⟨0, 0, Option.none⟩ 56, by kernel_rfl⟩
set_option maxRecDepth 100000 in
theorem lifted (os : Os) (started : os.Started) (H : Type) (enc : TypeId × Value → H) (F : Stop.Interp) :
    ReturnsInHanded {} Tryz.checked os 3 .any ((OpenSpec.ofChange Rows.fnExactEngineFaultSpec).preRow enc Tryz.prog Tryz.f3 Rows.fnExactEngineFaultRow.domain false Rows.fnExactEngineFaultRow.laid) (((OpenSpec.ofChange Rows.fnExactEngineFaultSpec).at F).post enc Tryz.prog Tryz.f3 false true false false) := by
  obtain ⟨places, hx⟩ := reads os enc
  refine returnsInHanded_of_row (C := Tryz.checked) (s := OpenSpec.ofChange Rows.fnExactEngineFaultSpec) Crd.own started (by kernel_rfl) Tryz.func3
    (witness_row_at (enc := enc) (C := Tryz.checked) false (Crd.laidOver (World.holding Tryz.prog os ⟨#[], #[], []⟩)) #[.agg #[.slice Option.none 0 0, .slice Option.none 0 0, .int .i64 0]] rfl (by kernel_rfl) (by kernel_rfl) (by kernel_rfl)
      (OpenSpec.preRow_of_cond 8 hx (by kernel_rfl) (fun k hk => by cases hk) (by kernel_rfl) (laid_met os))) ?_
  intro W base args ds gs before hval hW _ _ _ hL _ _
  exact contract H enc W base args ds gs before hval hW hL
theorem said : Rows.FnExactEngineFaultSaid :=
  OpenClaim.holds_of_cond 3 Tryz.f3 rfl rfl rfl rfl rfl rfl rfl ⟨rfl, rfl, rfl, rfl, rfl⟩ rfl rfl rfl rfl rfl (by kernel_rfl) Tryz.func3 (by kernel_rfl)
    (of_decide_eq_true (by kernel_rfl)) (by unfold Func.isWrapper; first | (rw [if_pos (by decide +kernel)]; kernel_rfl) | (rw [if_neg (by decide +kernel)]; exact ⟨rfl, rfl⟩))
    (fun os started H enc _ F => by rw [OpenClaim.pre_eq_preRow]; exact lifted os started H enc F)
set_option maxRecDepth 100000 in
theorem plain (f : FuncId) (fn : Func) (hf : Tryz.pinned.checked.prog.funcNamed "loop.example/g00343/laws.FnExactEngineFault" = some f) (hfn : Tryz.pinned.checked.prog.funcs[f]? = some fn) :
    true = Tryz.pinned.checked.prog.looks [] ∧ ∀ (j : Nat) t, fn.params[j]? = some t → Tryz.pinned.checked.prog.wantsStandIn t = false := by
  obtain rfl : f = 3 := Option.some.inj ((show Tryz.prog.funcNamed "loop.example/g00343/laws.FnExactEngineFault" = some 3 by kernel_rfl).symm.trans hf) |>.symm
  obtain rfl : fn = Tryz.f3 := (Option.some.inj (Tryz.func3.symm.trans hfn)).symm
  refine ⟨by kernel_rfl, fun j t ht => ?_⟩
  rw [Tryz.params3] at ht
  obtain rfl : t = 25 := by simpa using Array.mem_of_getElem? ht
  exact (show Tryz.prog.wantsStandIn 25 = false by kernel_rfl)
end EfL
theorem fnExactEngineFault_card : Rows.FnExactEngineFaultCardSaid :=
  Claim7.holds_tied_plain_at .later [] _ _ _ _ EfL.said (fun _ h => by cases h) (by kernel_rfl) (fun _ h => by cases h) fnExactEngineFault_row_tie rfl ⟨rfl, rfl⟩ (by kernel_rfl) rfl EfL.plain (by kernel_rfl)
#print axioms fnExactEngineFault_card
end Go.Proofs.YtpmlialjoonpeaaGreatDoor
