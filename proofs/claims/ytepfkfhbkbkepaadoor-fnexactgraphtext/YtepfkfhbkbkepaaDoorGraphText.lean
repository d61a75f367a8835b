/- Whatever graph is handed in, GraphText answers as the specification's GraphText does, in code and in text, and the graph reads afterwards as before. Condition, tied to the program's own text: the tables of rules of nodes and of powers of ten hold what their initialisers lay. -/
import Derived.Test.YtepfkfhbkbkepaaDoorCard7
import Derived.Test.YtepfkfhbkbkepaaDoorGrT
import Derived.Test.YtepfkfhbkbkepaaDoorGtC
import Derived.Deep.RegionHeld3
import Derived.Test.YtepfkfhbkbkepaaDoorGtD
namespace Go.Proofs.YtepfkfhbkbkepaaDoor
open Go.ChangeShapes Go.WideShapes Go.ChangeAt Go.RowKit
open Go.ChangeMaps (open_string shut_string)
set_option linter.unusedVariables false
namespace GtL
open Ex (hid)
open Rc Gr Gt
set_option maxRecDepth 100000 in
set_option maxHeartbeats 400000 in
theorem eqRes (c : Int) (x : ByteArray) (w : World) :
    Calls Tryd.prog 8 #[.agg #[.int .i64 c, .string x], .agg #[.int .i64 c, .string x]] w fun e w' => e = .returned (.bool true) ∧ Below w.heap.size w w' := by
  have h1 : (c != c) = false := by simp
  have h2 : (x.toList != x.toList) = false := by simp
  have h3 : (x.toList == x.toList) = true := by simp
  go_enter Tryd.func8, Tryd.ntmps8
  go_wp2
  go_ret
  exact ⟨rfl, ((Below.refl _ w).alloc (Nat.le_refl _) _).alloc (by simp) _⟩
set_option maxRecDepth 100000 in
set_option maxHeartbeats 8000000 in
theorem walk (g : GraphD) (n1 f1 : Value) (w : World) (kg : Ok g) (h1 : At w 0 n1 f1 g) (hr : NRul w) (ht : Gt.Tab w) :
    Calls Tryd.prog 3 #[.agg #[n1, f1]] w fun e w' => e = .returned (.bool true) ∧ Below w.heap.size w w' := by
  have hgl := hr.lt
  have HZ1 := hid (fun w' (hb : Below w.heap.size w w') => sz 0 g n1 f1 1048576 w' (by omega) (by omega) kg (h1.below hb))
  obtain ⟨a1, c1, rfl⟩ := h1.nodes.slice
  obtain ⟨a2, c2, rfl⟩ := h1.flows.slice
  have H1 := hid h1
  have HR := hid hr
  have HTB := hid ht
  have HB0 : Hid (Below w.heap.size w (w.alloc (.cells #[.slice a1 g.nodes.length c1, .slice a2 g.flows.length c2] 25))) := hid ((Below.refl _ w).alloc (Nat.le_refl _) _)
  have HT0 : Hid (Gr.One (w.alloc (.cells #[.slice a1 g.nodes.length c1, .slice a2 g.flows.length c2] 25)) w.heap.size (.slice a1 g.nodes.length c1) (.slice a2 g.flows.length c2)) := hid ⟨by go_simp, by go_simp, by simp⟩
  clear h1 kg hr ht
  go_enter Tryd.func3, Tryd.ntmps3
  go_wp2_with fail
  generalize w.alloc (.cells #[.slice a1 g.nodes.length c1, .slice a2 g.flows.length c2] 25) = w0 at *
  refine (HZ1.out _ HB0.out).mono ?_
  rintro e w1 ⟨⟨r1, rfl, r1a, r1b, r1c⟩, hb1⟩
  have HB1 := hid (HB0.out.trans (hb1.mono HB0.out.size))
  by_cases q1 : r1 < 0
  · clear hb1
    go_wp2
    go_ret
    exact ⟨rfl, HB1.out⟩
  have S1 := hid (r1c (by omega))
  have HT1 := hid (HT0.out.below hb1)
  obtain ⟨k0, k1, lp⟩ := HT1.out
  clear r1c HZ1 hb1 HB0 HT0
  have HC1 := hid (fun w' (hb : Below w.heap.size w w') => Gr.to1 0 g _ _ w' S1.out (H1.out.below hb))
  have HC2 := hid (fun w' (hb : Below w.heap.size w w') => Gr.to2 0 g _ _ w' S1.out (H1.out.below hb))
  clear H1
  go_wp2_with fail
  refine (HC1.out _ HB1.out).mono ?_
  rintro e w2 ⟨un, uf, rfl, hu, hb2⟩
  obtain ⟨x1, y1, rfl⟩ := hu.nodes.slice
  obtain ⟨x2, y2, rfl⟩ := hu.flows.slice
  have HB2 := hid (HB1.out.trans (hb2.mono HB1.out.size))
  have HT2 := hid (HT1.out.below hb2)
  have HU := hid hu
  clear hu hb2 k0 k1 lp HT1 HB1
  go_wp2_with fail
  refine (specGraphText _ g _ _ _ S1.out HU.out).mono ?_
  rintro e w3 ⟨rfl, hb3⟩
  have HIK := hid (fun un uf w' (hb : Below w.heap.size w w') (hu : At w' 0 un uf g) => implGraphText 0 g un uf w' S1.out hu (HR.out.below hb hgl) (HTB.out.below hb))
  generalize gFault g = cc at *
  generalize textG g = tt at *
  have HB3 := hid (HB2.out.trans (hb3.mono HB2.out.size))
  have HT3 := hid (HT2.out.below hb3)
  have hx4 : Below w3.heap.size w3 (w3.alloc (.cells #[.int .i64 cc, .string tt] 28)) := (Below.refl _ w3).alloc (Nat.le_refl _) _
  have HB4 := hid (HB3.out.trans (hx4.mono HB3.out.size))
  have HT4 := hid (HT3.out.below hx4)
  have p04 : (w3.alloc (.cells #[.int .i64 cc, .string tt] 28)).cell? ⟨w3.heap.size, 0, none⟩ = some (.int .i64 cc) := by go_simp
  have p14 : (w3.alloc (.cells #[.int .i64 cc, .string tt] 28)).cell? ⟨w3.heap.size, 1, none⟩ = some (.string tt) := by go_simp
  have l4 : w3.heap.size < (w3.alloc (.cells #[.int .i64 cc, .string tt] 28)).heap.size := by simp
  obtain ⟨k0, k1, lp⟩ := HT3.out
  clear hb3 hx4 HT2 HB2 HB3 HU
  go_wp2_with fail
  generalize w3.alloc (.cells #[.int .i64 cc, .string tt] 28) = w4 at *
  refine (HC1.out _ HB4.out).mono ?_
  rintro e w5 ⟨un, uf, rfl, hu, hb5⟩
  obtain ⟨x5, y5, rfl⟩ := hu.nodes.slice
  obtain ⟨x6, y6, rfl⟩ := hu.flows.slice
  have HBa : Hid (Below w5.heap.size w5 (w5.alloc (.cells #[.slice x5 g.nodes.length y5, .slice x6 g.flows.length y6] 33))) := hid ((Below.refl _ w5).alloc (Nat.le_refl _) _)
  have HX5 := hid (hb5.trans (HBa.out.mono hb5.size))
  have HB5 := hid (HB4.out.trans (HX5.out.mono HB4.out.size))
  have HT5 := hid (HT4.out.below hb5)
  have HTa : Hid (Two (w5.alloc (.cells #[.slice x5 g.nodes.length y5, .slice x6 g.flows.length y6] 33)) w.heap.size w5.heap.size (.slice a1 g.nodes.length c1) (.slice a2 g.flows.length c2) (.slice x5 g.nodes.length y5) (.slice x6 g.flows.length y6)) := hid ⟨old_cell HBa.out HT5.out.lp HT5.out.c0, old_cell HBa.out HT5.out.lp HT5.out.c1, by go_simp, by go_simp, by have := HT5.out.lp; simp; omega, by simp⟩
  have HUa := hid ((hu.mono (Nat.zero_le _)).below HBa.out)
  have p05 := old_cell HX5.out l4 p04
  have p15 := old_cell HX5.out l4 p14
  have l5 := Nat.lt_of_lt_of_le l4 HX5.out.size
  clear hu hb5 k0 k1 lp HT3 HT4 HT5 HB4 HBa HX5 p04 p14 l4
  have k2 := HTa.out.d0
  have k3 := HTa.out.d1
  go_wp2_with fail
  generalize w5.alloc (.cells #[.slice x5 g.nodes.length y5, .slice x6 g.flows.length y6] 33) = w5a at *
  refine (HIK.out _ _ _ HB5.out HUa.out).mono ?_
  rintro e w6 ⟨rfl, hb6⟩
  have HBb : Hid (Below w6.heap.size w6 (w6.alloc (.cells #[.int .i64 cc, .string tt] 28))) := hid ((Below.refl _ w6).alloc (Nat.le_refl _) _)
  have HX7 := hid (hb6.trans (HBb.out.mono hb6.size))
  have HB7 := hid (HB5.out.trans (HX7.out.mono HB5.out.size))
  have HT7 := hid (HTa.out.below HX7.out)
  have HU7 := hid (HUa.out.below HX7.out)
  have p07 := old_cell HX7.out l5 p05
  have p17 := old_cell HX7.out l5 p15
  have l7 := Nat.lt_of_lt_of_le l5 HX7.out.size
  have g07 : (w6.alloc (.cells #[.int .i64 cc, .string tt] 28)).cell? ⟨w6.heap.size, 0, none⟩ = some (.int .i64 cc) := by go_simp
  have g17 : (w6.alloc (.cells #[.int .i64 cc, .string tt] 28)).cell? ⟨w6.heap.size, 1, none⟩ = some (.string tt) := by go_simp
  have l8 : w6.heap.size < (w6.alloc (.cells #[.int .i64 cc, .string tt] 28)).heap.size := by simp
  clear hb6 k2 k3 HTa HUa HB5 HX7 HBb p05 p15 l5
  go_wp2_with fail
  generalize w6.alloc (.cells #[.int .i64 cc, .string tt] 28) = w7 at *
  refine (eqRes cc tt _).mono ?_
  rintro e w8 ⟨rfl, hb8⟩
  have HB8 := hid (HB7.out.trans (hb8.mono HB7.out.size))
  have HT8 := hid (HT7.out.below hb8)
  have HU8 := hid (HU7.out.below hb8)
  have HT8d : Hid (Two w8.drew w.heap.size w5.heap.size (.slice a1 g.nodes.length c1) (.slice a2 g.flows.length c2) (.slice x5 g.nodes.length y5) (.slice x6 g.flows.length y6)) := hid HT8.out.drew
  have hB8d := HB8.out.drew
  have HU8d := hid (HU8.out.below (Below.refl _ w8).drew)
  have hXd : Below w8.heap.size w8 w8.drew := (Below.refl _ w8).drew
  clear hb8 HT7 HU7 HB7 p07 p17 g07 g17 l7 l8 HT8 HU8 HB8 HC2
  go_wp2
  refine wp_region_held_drew (S := fun wx => Two wx w.heap.size w5.heap.size (.slice a1 g.nodes.length c1) (.slice a2 g.flows.length c2) (.slice x5 g.nodes.length y5) (.slice x6 g.flows.length y6)) (by kernel_rfl) HT8d.out (fun hHeld => ?_)
  refine wpAnyH_take (i := 0) (oi := { dst := some 23, op := Go.Op.load 33 (Go.Operand.tmp 5), type := 33, pos := "exact.go:3290", after := #[], guard := none }) (v := .agg #[.slice x5 g.nodes.length y5, .slice x6 g.flows.length y6]) rfl (by kernel_rfl) (by kernel_rfl) (by kernel_rfl) (fun _ _ _ h => h) (Or.inl ⟨by rfl, by intro w hSw; (try dsimp only at hSw); obtain ⟨s0, s1, s2, s3, s4, s5⟩ := hSw; go_simp⟩) (by assumption) ?_
  simp only [Act.put, List.setIfInBounds_toArray, List.set_cons_zero, List.set_cons_succ]
  refine wpAnyH_take (i := 1) (oi := { dst := some 24, op := Go.Op.load 25 (Go.Operand.tmp 1), type := 25, pos := "exact.go:3290", after := #[], guard := none }) (v := .agg #[.slice a1 g.nodes.length c1, .slice a2 g.flows.length c2]) rfl (by kernel_rfl) (by kernel_rfl) (by kernel_rfl) (fun _ _ _ h => h) (Or.inl ⟨by rfl, by intro w hSw; (try dsimp only at hSw); obtain ⟨s0, s1, s2, s3, s4, s5⟩ := hSw; go_simp⟩) (by assumption) ?_
  simp only [Act.put, List.setIfInBounds_toArray, List.set_cons_zero, List.set_cons_succ]
  refine wpAnyH_ready (rs := [2]) (by kernel_rfl) (by simp) ?_
  refine AllReadyH.cons (o := { dst := some 25, op := Go.Op.call { callee := Go.Callee.value (Go.Operand.func 6), args := #[Go.Operand.tmp 24], argTypes := #[25] }, type := 33, pos := "exact.go:3290", after := #[{ on := 1, ground := Go.Ground.data }], guard := none }) rfl (fun K hK => ?_) AllReadyH.nil
  go_simp
  go_at_call 6
  refine (HC1.out _ hB8d).mono ?_
  rintro e wm ⟨un, uf, rfl, hu, hbm⟩
  obtain ⟨zz1, tt1, rfl⟩ := hu.nodes.slice
  obtain ⟨zz2, tt2, rfl⟩ := hu.flows.slice
  have HC5 := hid (Gr.eq _ _ g _ _ _ _ _ S1.out (HU8d.out.below hbm) hu)
  have hBm := hB8d.trans (hbm.mono hB8d.size)
  have hXm := hXd.trans (hbm.mono hXd.size)
  have HTm := hid (HT8d.out.below hbm)
  clear hu hbm
  go_wp2_with fail
  refine hK.out _ _ HTm.out (fun hHeld => ?_)
  clear hK K
  try simp only [Act.put, List.setIfInBounds_toArray, List.set_cons_zero, List.set_cons_succ]
  refine wpAnyH_ready (rs := [3]) (by kernel_rfl) (by simp) ?_
  refine AllReadyH.cons (o := { dst := some 26, op := Go.Op.call { callee := Go.Callee.value (Go.Operand.func 9), args := #[Go.Operand.tmp 23, Go.Operand.tmp 25], argTypes := #[33, 33] }, type := 4, pos := "exact.go:3290", after := #[{ on := 0, ground := Go.Ground.data }, { on := 2, ground := Go.Ground.data }, { on := 2, ground := Go.Ground.chain }], guard := none }) rfl (fun K hK => ?_) AllReadyH.nil
  go_simp
  go_at_call 9
  refine HC5.out.mono ?_
  rintro e wn ⟨rfl, hbn⟩
  have hBn := hBm.trans (hbn.mono hBm.size)
  have hXn := hXm.trans (hbn.mono hXm.size)
  have HTn := hid (HTm.out.below hbn)
  clear hbn HC5 hXm hBm
  go_wp2_with fail
  refine hK.out _ _ HTn.out (fun hHeld => ?_)
  clear hK K
  try simp only [Act.put, List.setIfInBounds_toArray, List.set_cons_zero, List.set_cons_succ]
  refine wpAnyH_take (i := 4) (oi := { dst := some 27, op := Go.Op.unOp Go.UnOp.not 4 (Go.Operand.tmp 26), type := 4, pos := "exact.go:3290", after := #[{ on := 3, ground := Go.Ground.data }], guard := none }) (v := .bool false) rfl (by kernel_rfl) (by kernel_rfl) (by kernel_rfl) (fun _ _ _ h => h) (Or.inl ⟨by rfl, by intro w hSw; (try dsimp only at hSw); obtain ⟨s0, s1, s2, s3, s4, s5⟩ := hSw; go_simp⟩) (by assumption) ?_
  simp only [Act.put, List.setIfInBounds_toArray, List.set_cons_zero, List.set_cons_succ]
  refine wpAnyH_done (by kernel_rfl) ?_ _
  go_wp2
  go_ret
  exact ⟨rfl, hBn⟩
set_option maxRecDepth 100000 in
theorem contract (H : Type) (enc : TypeId × Value → H) (W : World) (base : Nat) (args : Array Value) (ds gs : List (DataW H)) (before : List MemPlace)
    (hval : ∀ (j : Nat) t v, Tryd.f3.params[j]? = some t → args[j]? = some v → Value.okWide Tryd.prog W .any base t v)
    (hW : DataW.Whole enc Tryd.prog Tryd.f3.params.toList Rows.fnExactGraphTextSpec.vars false W args.toList ds gs before) (hL : laidMetH Tryd.prog Rows.fnExactGraphTextRow.laid W) :
    Calls Tryd.prog 3 args W fun e W' => ∃ v, e = .returned v ∧ Rows.fnExactGraphTextSpec.post enc Tryd.prog Tryd.f3 false true false false W args v W' := by
  have hent := Crd.rul_in hL (by kernel_rfl)
  have htab := Crd.tab_of hL (by kernel_rfl)
  have hW' := hW
  obtain ⟨p, q, hA0, hV, rfl, hfz, hnd⟩ := hW
  have hA : DataW.TrodAll enc Tryd.prog W 0 (fun _ => true) true Tryd.f3.params.toList args.toList ds p := hA0
  rw [Tryd.params3] at hA hval
  obtain ⟨v0, vs0, d0, ds0, p0, q0, hargs, rfl, rfl, h0, r0⟩ := trodAll_cons hA
  obtain ⟨rfl, rfl, rfl⟩ := trodAll_nil r0
  obtain rfl : args = #[v0] := by cases args; simp_all
  obtain ⟨cs0, rfl, _⟩ := okWide_struct Tryd.underlying25 (hval 0 25 v0 rfl rfl)
  have k0 := h0
  have lt0 : ∀ x ∈ p0, x.block < W.heap.size := by obtain ⟨m, hm⟩ := k0; exact DataW.trod_lt m _ _ _ hm
  obtain ⟨g0, n0, f0, hc0, ga0, gk0⟩ : ∃ (g : Gr.GraphD) (vn vf : Value), cs0.toList = [vn, vf] ∧ Gr.At W 0 vn vf g ∧ Gr.Ok g := by
    obtain ⟨fuel, hf⟩ := h0
    exact Gr.open_all (by simpa [Value.cells] using hf)
  obtain rfl : cs0 = #[n0, f0] := by cases cs0; simp_all
  clear hA0
  refine (walk g0 _ _ W gk0 ga0 hent htab).mono fun e W' ⟨he, bel⟩ => ?_
  subst he
  have hV0 := hV
  obtain ⟨g, t, cs, fuel, dv, pv, rfl, hg, ht, hvar, hd, rfl⟩ := trodVars_one hV
  have hv' := Below.trodVars Crd.laidOut bel (ns := Rows.fnExactGraphTextSpec.vars) (by kernel_rfl) hV0
  exact ⟨_, rfl, _, _, _, [], _, _, hW', trodAll_mk1 (shut_bool Tryd.underlying4 _), (trodAll_cons_mk (Below.trod Crd.laidOut (by kernel_rfl) (of_decide_eq_true (by kernel_rfl)) k0 bel lt0) trodAll_mk0), hv', bel.frame _, fun h => by cases h⟩
theorem laid_met (os : Os) : laidMet Tryd.prog Rows.fnExactGraphTextRow.laid ((Crd.laidOver (World.holding Tryd.prog os ⟨#[], #[], []⟩)).forCall (fun _ _ => 0) ⟨#[], #[.agg #[.slice Option.none 0 0, .slice Option.none 0 0]], []⟩).memory :=
  laidMet_of_run' 8 (by kernel_rfl) (by kernel_rfl)
theorem reads (os : Os) {H : Type} (enc : TypeId × Value → H) : ∃ places, DataW.whole enc Tryd.prog ((Crd.laidOver (World.holding Tryd.prog os ⟨#[], #[], []⟩)).forCall (fun _ _ => 0) ⟨#[], #[.agg #[.slice Option.none 0 0, .slice Option.none 0 0]], []⟩).memory Tryd.f3.params.toList Rows.fnExactGraphTextSpec.vars false #[Value.agg #[.slice Option.none 0 0, .slice Option.none 0 0]].toList 8 = some ([.agg [.nil, .nil]], [Rows.laid_loop_example_g00343_impl_nodeRules], places) :=
  ⟨MemPlace.row ⟨0, 0, Option.none⟩ 65, by kernel_rfl⟩
set_option maxRecDepth 100000 in
theorem lifted (os : Os) (started : os.Started) (H : Type) (enc : TypeId × Value → H) (F : Stop.Interp) :
    ReturnsInHanded {} Tryd.checked os 3 .any ((OpenSpec.ofChange Rows.fnExactGraphTextSpec).preRow enc Tryd.prog Tryd.f3 Rows.fnExactGraphTextRow.domain false Rows.fnExactGraphTextRow.laid) (((OpenSpec.ofChange Rows.fnExactGraphTextSpec).at F).post enc Tryd.prog Tryd.f3 false true false false) := by
  obtain ⟨places, hx⟩ := reads os enc
  refine returnsInHanded_of_row (C := Tryd.checked) (s := OpenSpec.ofChange Rows.fnExactGraphTextSpec) Crd.own started (by kernel_rfl) Tryd.func3
    (witness_row_at (enc := enc) (C := Tryd.checked) false (Crd.laidOver (World.holding Tryd.prog os ⟨#[], #[], []⟩)) #[.agg #[.slice Option.none 0 0, .slice Option.none 0 0]] rfl (by kernel_rfl) (by kernel_rfl) (by kernel_rfl)
      (OpenSpec.preRow_of_cond 8 hx (by kernel_rfl) (fun k hk => by cases hk) (by kernel_rfl) (laid_met os))) ?_
  intro W base args ds gs before hval hW _ _ _ hL _ _
  exact contract H enc W base args ds gs before hval hW hL
theorem said : Rows.FnExactGraphTextSaid :=
  OpenClaim.holds_of_cond 3 Tryd.f3 rfl rfl rfl rfl rfl rfl rfl ⟨rfl, rfl, rfl, rfl, rfl⟩ rfl rfl rfl rfl rfl (by kernel_rfl) Tryd.func3 (by kernel_rfl)
    (of_decide_eq_true (by kernel_rfl)) (by unfold Func.isWrapper; first | (rw [if_pos (by decide +kernel)]; kernel_rfl) | (rw [if_neg (by decide +kernel)]; exact ⟨rfl, rfl⟩))
    (fun os started H enc _ F => by rw [OpenClaim.pre_eq_preRow]; exact lifted os started H enc F)
set_option maxRecDepth 100000 in
theorem plain (f : FuncId) (fn : Func) (hf : Tryd.pinned.checked.prog.funcNamed "loop.example/g00343/laws.FnExactGraphText" = some f) (hfn : Tryd.pinned.checked.prog.funcs[f]? = some fn) :
    false = Tryd.pinned.checked.prog.looks [] ∧ ∀ (j : Nat) t, fn.params[j]? = some t → Tryd.pinned.checked.prog.wantsStandIn t = false := by
  obtain rfl : f = 3 := Option.some.inj ((show Tryd.prog.funcNamed "loop.example/g00343/laws.FnExactGraphText" = some 3 by kernel_rfl).symm.trans hf) |>.symm
  obtain rfl : fn = Tryd.f3 := (Option.some.inj (Tryd.func3.symm.trans hfn)).symm
  refine ⟨by kernel_rfl, fun j t ht => ?_⟩
  rw [Tryd.params3] at ht
  obtain rfl : t = 25 := by simpa using Array.mem_of_getElem? ht
  exact (show Tryd.prog.wantsStandIn 25 = false by kernel_rfl)
end GtL
theorem fnExactGraphText_card : Rows.FnExactGraphTextCardSaid :=
  Claim7.holds_tied_plain_at .later [] _ _ _ _ GtL.said (fun _ h => by cases h) (by kernel_rfl) (fun _ h => by cases h) fnExactGraphText_row_tie rfl ⟨rfl, rfl⟩ (by kernel_rfl) rfl GtL.plain (by kernel_rfl)
#print axioms fnExactGraphText_card
end Go.Proofs.YtepfkfhbkbkepaaDoor
