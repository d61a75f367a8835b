/- Whatever text is handed in, ParseExpr answers as the specification's ParseExpr does, in code and in nodes, and its list of nodes owns its memory, behind another call too. Condition, tied to the program's own text: the library's tables hold what their initialisers lay. -/
import Derived.Test.YtalplnbkijmahaiDoorCard1
import Derived.Test.YtalplnbkijmahaiDoorNdR
namespace Go.Proofs.YtalplnbkijmahaiDoor
open Go.ChangeShapes Go.WideShapes Go.ChangeAt Go.RowKit
open Go.ChangeMaps (open_string shut_string)
set_option linter.unusedVariables false
namespace PxL
open Ex
open Nd (NodeD)
open NdR (marksN marksN_len)
theorem str_self (s : ByteArray) : str s.data.toList = s := by cases s; rfl
theorem at_grown {w w' : World} {B : Nat} {v : Value} {xs : List NodeD} {row : Option Nat} (h : Nd.At w B v xs) (hg : w.grownBy w' row) (hne : ∀ b, v.ownBlock = some b → row ≠ some b) : Nd.At w' B v xs := by
  obtain ⟨a, cap, rfl, h1, h2, h3⟩ := h
  refine ⟨a, cap, rfl, h1, h2, ?_⟩
  rcases h3 with h3 | ⟨g, o, rfl, h4, h5, h6⟩
  · exact .inl h3
  · refine .inr ⟨g, o, rfl, h4, Nat.lt_of_lt_of_le h5 hg.size, fun i hi => ?_⟩
    have e := hg.block g h5 (fun e => hne g rfl e.symm)
    simp only [World.cell?, e]
    exact h6 i hi
set_option maxRecDepth 100000 in
set_option maxHeartbeats 8000000 in
theorem walk (s : ByteArray) (w0 : World) :
    Calls Tryd.prog 4 #[.string s] w0 fun e w' => e = .returned (.bool true) ∧ Below w0.heap.size w0 w' := by
  rw [← str_self s]
  generalize s.data.toList = l
  have e1 : (str l).size = l.length := str_size l
  by_cases q0 : 1048576 < l.length
  · have q1 : (1048576 : Int) < (l.length : Int) := by omega
    clear q0
    generalize str l = sl at *
    go_enter Tryd.func4, Tryd.ntmps4
    go_wp2
    go_ret
    exact ⟨rfl, Below.refl _ _⟩
  have q1 : ¬ (1048576 : Int) < (l.length : Int) := by omega
  have HS := hid (fun w' => specParse l w' (by omega))
  have HI := hid (fun w' => implParse l w' (by omega))
  have hxl : (pNodes l).length ≤ 1048576 := Nat.le_trans (pNodes_len l) (by omega)
  unfold PxPost at HS HI
  generalize pCode l = cc at *
  generalize pNodes l = xs at *
  clear q0
  generalize str l = sl at *
  go_enter Tryd.func4, Tryd.ntmps4
  go_wp2_with fail
  refine (HS.out _).mono ?_
  rintro e w3 ⟨⟨s0, rfl, ho0⟩, B3⟩
  have hs0 : ∀ b, s0.ownBlock = some b → b < w3.heap.size := fun b hb => (own_lt ho0 hb).2
  have I0 := hid (at_of_owns ho0)
  obtain ⟨y0, z0, rfl⟩ := own4_slice ho0
  clear ho0
  go_wp2_with fail
  have B4 : Below w0.heap.size w0 (w3.alloc (.cells #[.int .i64 cc, .slice y0 xs.length z0] 33)) := B3.alloc B3.size _
  have hx4 : Below w3.heap.size w3 (w3.alloc (.cells #[.int .i64 cc, .slice y0 xs.length z0] 33)) := (Below.refl _ w3).alloc (Nat.le_refl _) _
  refine (HI.out _).mono ?_
  rintro e w6 ⟨⟨g0, rfl, ho6⟩, hb6⟩
  have B6 := B4.trans (hb6.mono B4.size)
  have I06 := hid ((I0.out.below hx4).below hb6)
  simp only [World.size_alloc] at hb6 ho6
  have hg0 : ∀ b, g0.ownBlock = some b → w3.heap.size + 1 + 1 ≤ b ∧ b < w6.heap.size := fun b hb => own_lt ho6 hb
  have l6 : w3.heap.size + 1 ≤ w6.heap.size := by have := hb6.size; simpa using this
  have p06 := kept_cell hb6 (b := w3.heap.size) (o := 0) (v := .int .i64 cc) (by omega) (by go_simp)
  have p16 := kept_cell hb6 (b := w3.heap.size) (o := 1) (v := .slice y0 xs.length z0) (by omega) (by go_simp)
  obtain ⟨y1, z1, rfl⟩ := own4_slice ho6
  have hl3 : w3.heap.size < w6.heap.size := by omega
  have O6 := hid ho6
  clear ho6 I0 hx4 B4 hb6
  go_wp2_with fail
  have hx7 : Below w6.heap.size w6 (w6.alloc (.cells #[.int .i64 cc, .slice y1 xs.length z1] 33)) := (Below.refl _ w6).alloc (Nat.le_refl _) _
  have B7 := B6.trans (hx7.mono B6.size)
  refine (NdR.eqR cc _ _ _ _ xs _ hxl ((at_of_owns O6.out).below hx7) (I06.out.below hx7)).mono ?_
  rintro e w12 ⟨rfl, hb8⟩
  have B12 := B7.trans (hb8.mono B7.size)
  simp only [World.size_alloc] at hb8
  have l12 : w6.heap.size + 1 ≤ w12.heap.size := by have := hb8.size; simpa using this
  have hx8 : Below w6.heap.size w6 w12 := hx7.trans (hb8.mono (by omega))
  have p012 := kept_cell hx8 (by omega) p06
  have p112 := kept_cell hx8 (by omega) p16
  have g012 := kept_cell hb8 (b := w6.heap.size) (o := 0) (v := .int .i64 cc) (by omega) (by go_simp)
  have g112 := kept_cell hb8 (b := w6.heap.size) (o := 1) (v := .slice y1 xs.length z1) (by omega) (by go_simp)
  have O12 := hid (owns_keep O6.out hx8)
  have I012 := hid (I06.out.below hx8)
  clear O6 I06 p06 p16 hb8 hx7 hx8 B7
  go_wp2_with fail
  refine (NdR.markR cc _ _ xs _ hxl O12.out).mono ?_
  rintro e w13 ⟨rfl, ho13, hg13⟩
  have l13 := hg13.size
  have hne : ∀ b, b ≤ w3.heap.size ∨ w6.heap.size ≤ b → (Value.slice y1 xs.length z1).ownBlock ≠ some b := fun b hb e => by have := hg0 b e; omega
  have B13 : Below w0.heap.size w0 w13 := B12.grown hg13 B12.size (fun b e => by have := hg0 b e; have := B3.size; omega)
  have p013 := grown_cell2 hg13 p012 (hne _ (by omega))
  have p113 := grown_cell2 hg13 p112 (hne _ (by omega))
  have g013 := grown_cell2 hg13 g012 (hne _ (by omega))
  have g113 := grown_cell2 hg13 g112 (hne _ (by omega))
  have M13 := hid ho13
  have I013 := hid (at_grown I012.out hg13 (fun b hb => hne b (.inl (by have := hs0 b hb; omega))))
  clear O12 I012 p012 p112 g012 g112 hg13 ho13
  go_wp2_with fail
  refine (NdR.heldR cc _ xs.length _ hxl M13.out).mono ?_
  rintro e w14 ⟨rfl, hb14⟩
  have B14 := B13.trans (hb14.mono B13.size)
  have l14 := hb14.size
  have p014 := kept_cell hb14 (by omega) p013
  have p114 := kept_cell hb14 (by omega) p113
  have g014 := kept_cell hb14 (by omega) g013
  have g114 := kept_cell hb14 (by omega) g113
  have M14 := hid (M13.out.below hb14)
  have I014 := hid (I013.out.below hb14)
  have qq1 : ¬ (1 + 4 * (xs.length : Int)) < 0 := by omega
  have qq2 : ((1 + 4 * (xs.length : Int)) != (1 + 4 * (xs.length : Int))) = false := by simp
  clear M13 I013 p013 p113 g013 g113 hb14
  go_wp2_with fail
  refine (HI.out _).mono ?_
  rintro e w16 ⟨⟨h0, rfl, ho16⟩, hx16⟩
  have B16 := B14.trans (hx16.mono B14.size)
  have l16 := hx16.size
  have p016 := kept_cell hx16 (by omega) p014
  have p116 := kept_cell hx16 (by omega) p114
  have g016 := kept_cell hx16 (by omega) g014
  have g116 := kept_cell hx16 (by omega) g114
  have M16 := hid (M14.out.below hx16)
  have I016 := hid (I014.out.below hx16)
  have J16 := hid (at_of_owns ho16)
  obtain ⟨y2, z2, rfl⟩ := own4_slice ho16
  have lb6 : w3.heap.size < w16.heap.size := by omega
  have lb8 : w6.heap.size < w16.heap.size := by omega
  clear M14 I014 p014 p114 g014 g114 ho16 hx16
  go_wp2_with fail
  have hx17 : Below w16.heap.size w16 (w16.alloc (.cells #[.int .i64 cc, .slice y2 xs.length z2] 33)) := (Below.refl _ w16).alloc (Nat.le_refl _) _
  have B17 := B16.trans (hx17.mono B16.size)
  refine (NdR.eqR cc _ _ _ _ xs _ hxl (J16.out.below hx17) (I016.out.below hx17)).mono ?_
  rintro e w18 ⟨rfl, hb18⟩
  have B18 := B17.trans (hb18.mono B17.size)
  have hx18 : Below w16.heap.size w16 w18 := hx17.trans (hb18.mono (by simp))
  have g018 := kept_cell hx18 lb8 g016
  have g118 := kept_cell hx18 lb8 g116
  have M18 := hid (M16.out.below hx18)
  clear M16 I016 J16 p016 p116 g016 g116 hb18 hx17
  go_wp2_with fail
  refine (NdR.heldR cc _ xs.length _ hxl M18.out).mono ?_
  rintro e w19 ⟨rfl, hb19⟩
  have B19 := B18.trans (hb19.mono B18.size)
  go_wp2
  go_ret
  exact ⟨rfl, B19⟩
set_option maxRecDepth 100000 in
theorem contract (H : Type) (enc : TypeId × Value → H) (W : World) (base : Nat) (args : Array Value) (ds gs : List (DataW H)) (before : List MemPlace)
    (hval : ∀ (j : Nat) t v, Tryd.f4.params[j]? = some t → args[j]? = some v → Value.okWide Tryd.prog W .any base t v)
    (hW : DataW.Whole enc Tryd.prog Tryd.f4.params.toList Rows.fnExactParseExprSpec.vars false W args.toList ds gs before) (hL : laidMetH Tryd.prog Rows.fnExactParseExprRow.laid W) :
    Calls Tryd.prog 4 args W fun e W' => ∃ v, e = .returned v ∧ Rows.fnExactParseExprSpec.post enc Tryd.prog Tryd.f4 false true false false W args v W' := by
  have hent := True.intro
  have hW' := hW
  obtain ⟨p, q, hA0, hV, rfl, hfz, hnd⟩ := hW
  have hA : DataW.TrodAll enc Tryd.prog W 0 (fun _ => true) true Tryd.f4.params.toList args.toList ds p := hA0
  rw [Tryd.params4] at hA hval
  obtain ⟨v0, vs0, d0, ds0, p0, q0, hargs, rfl, rfl, h0, r0⟩ := trodAll_cons hA
  obtain ⟨rfl, rfl, rfl⟩ := trodAll_nil r0
  obtain rfl : args = #[v0] := by cases args; simp_all
  obtain ⟨rfl, rfl⟩ := trodVars_none hV
  obtain ⟨s0, rfl, rfl, rfl, ws0⟩ := open_string Tryd.underlying9 (hval 0 9 v0 rfl rfl) h0
  clear hA0
  refine (walk s0 W).mono fun e W' ⟨he, bel⟩ => ?_
  subst he
  exact ⟨_, rfl, _, _, _, [], _, [], hW', trodAll_mk1 (shut_bool Tryd.underlying4 _), (trodAll_cons_mk (shut_string Tryd.underlying9 ws0) trodAll_mk0), rfl, bel.frame _, fun h => by cases h⟩
theorem laid_met (os : Os) : laidMet Tryd.prog Rows.fnExactParseExprRow.laid ((Crd.laidOver (World.holding Tryd.prog os ⟨#[], #[], []⟩)).forCall (fun _ _ => 0) ⟨#[], #[.string ByteArray.empty], []⟩).memory :=
  laidMet_of_run' 8 (by kernel_rfl) (by kernel_rfl)
theorem reads (os : Os) {H : Type} (enc : TypeId × Value → H) : DataW.whole enc Tryd.prog ((Crd.laidOver (World.holding Tryd.prog os ⟨#[], #[], []⟩)).forCall (fun _ _ => 0) ⟨#[], #[.string ByteArray.empty], []⟩).memory Tryd.f4.params.toList Rows.fnExactParseExprSpec.vars false #[Value.string ByteArray.empty].toList 8 = some ([.lit (.string [])], [], []) := by kernel_rfl
set_option maxRecDepth 100000 in
theorem lifted (os : Os) (started : os.Started) (H : Type) (enc : TypeId × Value → H) (F : Stop.Interp) :
    ReturnsInHanded {} Tryd.checked os 4 .any ((OpenSpec.ofChange Rows.fnExactParseExprSpec).preRow enc Tryd.prog Tryd.f4 Rows.fnExactParseExprRow.domain false Rows.fnExactParseExprRow.laid) (((OpenSpec.ofChange Rows.fnExactParseExprSpec).at F).post enc Tryd.prog Tryd.f4 false true false false) := by
  have hx := reads os enc
  refine returnsInHanded_of_row (C := Tryd.checked) (s := OpenSpec.ofChange Rows.fnExactParseExprSpec) Crd.own started (by kernel_rfl) Tryd.func4
    (witness_row_at (enc := enc) (C := Tryd.checked) false (Crd.laidOver (World.holding Tryd.prog os ⟨#[], #[], []⟩)) #[.string ByteArray.empty] rfl (by kernel_rfl) (by kernel_rfl) (by kernel_rfl)
      (OpenSpec.preRow_of_cond 8 hx (by kernel_rfl) (fun k hk => by cases hk) (by kernel_rfl) (laid_met os))) ?_
  intro W base args ds gs before hval hW _ _ _ hL _ _
  exact contract H enc W base args ds gs before hval hW hL
theorem said : Rows.FnExactParseExprSaid :=
  OpenClaim.holds_of_cond 4 Tryd.f4 rfl rfl rfl rfl rfl rfl rfl ⟨rfl, rfl, rfl, rfl, rfl⟩ rfl rfl rfl rfl rfl (by kernel_rfl) Tryd.func4 (by kernel_rfl)
    (of_decide_eq_true (by kernel_rfl)) (by unfold Func.isWrapper; first | (rw [if_pos (by decide +kernel)]; kernel_rfl) | (rw [if_neg (by decide +kernel)]; exact ⟨rfl, rfl⟩))
    (fun os started H enc _ F => by rw [OpenClaim.pre_eq_preRow]; exact lifted os started H enc F)
set_option maxRecDepth 100000 in
theorem plain (f : FuncId) (fn : Func) (hf : Tryd.pinned.checked.prog.funcNamed "loop.example/g00343/laws.FnExactParseExpr" = some f) (hfn : Tryd.pinned.checked.prog.funcs[f]? = some fn) :
    true = Tryd.pinned.checked.prog.looks [] ∧ ∀ (j : Nat) t, fn.params[j]? = some t → Tryd.pinned.checked.prog.wantsStandIn t = false := by
  obtain rfl : f = 4 := Option.some.inj ((show Tryd.prog.funcNamed "loop.example/g00343/laws.FnExactParseExpr" = some 4 by kernel_rfl).symm.trans hf) |>.symm
  obtain rfl : fn = Tryd.f4 := (Option.some.inj (Tryd.func4.symm.trans hfn)).symm
  refine ⟨by kernel_rfl, fun j t ht => ?_⟩
  rw [Tryd.params4] at ht
  obtain rfl : t = 9 := by simpa using Array.mem_of_getElem? ht
  exact (show Tryd.prog.wantsStandIn 9 = false by kernel_rfl)
end PxL
theorem fnExactParseExpr_card : Rows.FnExactParseExprCardSaid :=
  Claim7.holds_tied_plain_at .later [] _ _ _ _ PxL.said (fun _ h => by cases h) (by kernel_rfl) (fun _ h => by cases h) fnExactParseExpr_row_tie rfl ⟨rfl, rfl⟩ (by kernel_rfl) rfl PxL.plain (by kernel_rfl)
#print axioms fnExactParseExpr_card
end Go.Proofs.YtalplnbkijmahaiDoor
