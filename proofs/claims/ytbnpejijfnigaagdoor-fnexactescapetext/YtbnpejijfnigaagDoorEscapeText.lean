/- Whatever text is handed in, EscapeText answers as the specification's EscapeText does, in code and in text, and the text reads afterwards as before. Condition, tied to the program's own text: the table of entities holds what its initialiser lays. -/
import Derived.Test.YtbnpejijfnigaagDoorEsc2
import Derived.Test.YtbnpejijfnigaagDoorCards
import Derived.Test.YtbnpejijfnigaagDoorTie
import Derived.ShutString
import Derived.ChangeOld
import Derived.Below
import Derived.OpenVars
import Derived.Deep.DeepHandedRow
import Derived.Lib.LaidTab
namespace Go.Proofs.YtbnpejijfnigaagDoor
open Go.ChangeShapes Go.WideShapes Go.ChangeAt Go.RowKit
open Go.ChangeMaps (open_string shut_string)
set_option linter.unusedVariables false
namespace Esc
theorem Ent.pos {w : World} (h : Ent w) : 0 < w.heap.size := by
  rcases Nat.eq_zero_or_pos w.heap.size with h0 | h0
  · have := h 0 (by decide)
    simp [World.cell?, h0, entVals] at this
  · exact h0
set_option maxHeartbeats 400000 in
theorem eqSame (c : Int) (t : ByteArray) (w : World) :
    Calls Tryd.prog 7 #[.agg #[.int .i64 c, .string t], .agg #[.int .i64 c, .string t]] w fun e w' => e = .returned (.bool true) ∧ Below w.heap.size w w' := by
  have h1 : (c != c) = false := by simp
  go_enter Tryd.func7, Tryd.ntmps7
  go_wp2
  go_ret
  exact ⟨rfl, ((Below.refl _ w).alloc (Nat.le_refl _) _).alloc (by simp) _⟩
set_option maxHeartbeats 1000000 in
theorem walk (s : ByteArray) (w : World) (hs : s.size ≤ maxLen) (he : Ent w) :
    Calls Tryd.prog 3 #[.string s] w fun e w' => e = .returned (.bool true) ∧ Below w.heap.size w w' := by
  have hm := hs
  unfold maxLen at hs
  have hw := he.pos
  by_cases hbig : s.size ≤ 1048576
  · have HE : Hid (Ent w) := he
    clear he
    go_enter Tryd.func3, Tryd.ntmps3
    go_wp2_with fail
    refine (specEsc s _ hm).mono ?_
    rintro e w1 ⟨rfl, hb1⟩
    obtain ⟨c, t, hct⟩ : ∃ c t, escVal s.data.toList = .agg #[.int .i64 c, .string t] := ⟨_, _, rfl⟩
    have HC : Hid (escVal s.data.toList = .agg #[.int .i64 c, .string t]) := hct
    clear hct
    have hz1 := hb1.size
    rw [HC.out]
    go_wp2_with fail
    have hB1 : Below w.heap.size w (w1.alloc (.cells #[.int .i64 c, .string t] 23)) := hb1.alloc hz1 _
    refine (implEsc s _ hm (Ent.below HE.out hB1 hw) (by simp)).mono ?_
    rintro e w2 ⟨rfl, hb2⟩
    rw [HC.out]
    obtain ⟨hc2, hf2⟩ := bcell hb2
    have hz2 : w1.heap.size + 1 ≤ w2.heap.size := by have := hb2.size; simpa using this
    have hc20 : w2.cell? ⟨w1.heap.size, 0, none⟩ = some (.int .i64 c) := by rw [hc2 _ _ (by simp)]; simp
    have hc21 : w2.cell? ⟨w1.heap.size, 1, none⟩ = some (.string t) := by rw [hc2 _ _ (by simp)]; simp
    clear hc2 hf2
    have hlt : w1.heap.size < w2.heap.size := by omega
    go_wp2_with fail
    refine (eqSame c t _).mono ?_
    rintro e w3 ⟨rfl, hb3⟩
    go_wp2
    go_ret
    have hB2 : Below w.heap.size w w2 := hB1.trans (hb2.mono (by simp; omega))
    exact ⟨rfl, (hB2.alloc (by omega) _).trans (hb3.mono (by simp; omega))⟩
  · go_enter Tryd.func3, Tryd.ntmps3
    go_wp2
    go_ret
    exact ⟨rfl, Below.refl _ _⟩

/-! ### from the row's list to the table's cells -/
theorem own : ownKnob Tryd.prog.godebug = none := by kernel_rfl
theorem laidOut : laidOutB Tryd.prog = true := by kernel_rfl
theorem gTab : Tryd.prog.globalNamed "loop.example/g00343/impl.entities" = some 0 := by kernel_rfl
theorem gTabType : (Tryd.prog.globals[0]?).map (·.type) = some 45 := by kernel_rfl
theorem cellsTA : Tryd.prog.cellsOf 45 = 15 := by kernel_rfl
theorem cellsTE : Tryd.prog.cellsOf 44 = 3 := by kernel_rfl
theorem cells9 : Tryd.prog.cellsOf 9 = 1 := by kernel_rfl
theorem cells5 : Tryd.prog.cellsOf 5 = 1 := by kernel_rfl
theorem cells4 : Tryd.prog.cellsOf 4 = 1 := by kernel_rfl

/-- One row of the table: its three cells. -/
theorem entity {H : Type} {enc : TypeId × Value → H} {w : World} {base : Nat} {sp : Nat → Bool} {held : Bool} {fuel : Nat} {cs : List Value} {l : List UInt8} {z : Int} {b : Bool} {p : List MemPlace}
    (h : DataW.trod enc Tryd.prog w base sp held fuel 44 cs = some (.agg [.lit (.string l), .lit (.int .u8 z), .lit (.bool b)], p)) :
    cs = [.string ⟨l.toArray⟩, .int .u8 z, .bool b] := by
  obtain ⟨xs, n, rfl, hx, hlen, hxl, hf⟩ := DataW.trod_struct Tryd.underlying44 h
  have h0 := hf 0 _ rfl
  have h1 := hf 1 _ rfl
  have h2 := hf 2 _ rfl
  rw [cellsTE] at hlen
  match cs, hlen with
  | [a, b', c], _ =>
    match xs, hxl with
    | [x0, x1, x2], _ =>
      simp at h0 h1 h2 hx
      obtain ⟨s0, e0, f0, _⟩ := DataW.trod_string Tryd.underlying9 h0
      obtain ⟨n1, e1, f1, _⟩ := DataW.trod_int Tryd.underlying5 h1
      obtain ⟨b2, e2, f2⟩ := DataW.trod_bool Tryd.underlying4 h2
      subst f0 f1 f2
      rw [cells9] at e0
      rw [cells5] at e1
      rw [cells4] at e2
      simp at e0 e1 e2 hx
      obtain ⟨⟨g0, g1, g2⟩, _⟩ := hx
      subst e0 e1 e2 g1 g2
      rw [g0]

theorem var_ent {W : World} (h : laidMetH Tryd.prog Rows.fnExactEscapeTextRow.laid W) : ∃ cs, W.var? Tryd.prog "loop.example/g00343/impl.entities" = some cs ∧ cs.toList = entVals := by
  obtain ⟨ps, ⟨g', t', cs, fuel, p, q, hg', ht', hvar, hd, _, _⟩, _⟩ := h
  obtain rfl := Option.some.inj (gTab.symm.trans hg')
  obtain rfl := Option.some.inj (gTabType.symm.trans ht')
  refine ⟨cs, hvar, ?_⟩
  obtain ⟨xs, m, rfl, hx, hlen, hxl, hf⟩ := DataW.trod_array Tryd.underlying45 hd
  have f0 := hf 0 (by decide)
  have f1 := hf 1 (by decide)
  have f2 := hf 2 (by decide)
  have f3 := hf 3 (by decide)
  have f4 := hf 4 (by decide)
  rw [cellsTE] at f0 f1 f2 f3 f4
  rw [cellsTA] at hlen
  match xs, hxl with
  | [x0, x1, x2, x3, x4], _ =>
    obtain ⟨d0, p0⟩ := x0
    obtain ⟨d1, p1⟩ := x1
    obtain ⟨d2, p2⟩ := x2
    obtain ⟨d3, p3⟩ := x3
    obtain ⟨d4, p4⟩ := x4
    simp only [Rows.laid_loop_example_g00343_impl_entities, List.map_cons, List.map_nil, Prod.mk.injEq, DataW.agg.injEq, List.cons.injEq, and_true] at hx
    obtain ⟨⟨rfl, rfl, rfl, rfl, rfl⟩, _⟩ := hx
    generalize cs.toList = l at *
    have g0 := entity f0
    have g1 := entity f1
    have g2 := entity f2
    have g3 := entity f3
    have g4 := entity f4
    have hl : l = (l.drop 0).take 3 ++ ((l.drop 3).take 3 ++ ((l.drop 6).take 3 ++ ((l.drop 9).take 3 ++ (l.drop 12).take 3))) := by
      match l, hlen with
      | [a0, a1, a2, a3, a4, a5, a6, a7, a8, a9, a10, a11, a12, a13, a14], _ => rfl
    rw [hl]
    simp only [Nat.reduceMul] at g0 g1 g2 g3 g4
    rw [g0, g1, g2, g3, g4]
    rfl

theorem ent_of {W : World} (h : laidMetH Tryd.prog Rows.fnExactEscapeTextRow.laid W) : Ent W := by
  obtain ⟨cs, hv, hcs⟩ := var_ent h
  intro i hi
  rw [World.var?_cell gTab hv i, ← hcs]
  simp
theorem var_below {B : Nat} {W W' : World} {cs : Array Value} (h : W.var? Tryd.prog "loop.example/g00343/impl.entities" = some cs) (hB : Below B W W') (h0 : 0 < B) : W'.var? Tryd.prog "loop.example/g00343/impl.entities" = some cs := by
  rw [← h]
  simp only [World.var?, gTab, Option.bind_some]
  rw [hB.block 0 h0]

/-- What the walk gives, for every text and every world that holds the table. -/
theorem contract (H : Type) (enc : TypeId × Value → H) (W : World) (base : Nat) (args : Array Value) (ds gs : List (DataW H)) (before : List MemPlace)
    (hval : ∀ (j : Nat) t v, Tryd.f3.params[j]? = some t → args[j]? = some v → Value.okWide Tryd.prog W .any base t v)
    (hW : DataW.Whole enc Tryd.prog Tryd.f3.params.toList Rows.fnExactEscapeTextSpec.vars false W args.toList ds gs before) (hL : laidMetH Tryd.prog Rows.fnExactEscapeTextRow.laid W) :
    Calls Tryd.prog 3 args W fun e W' => ∃ v, e = .returned v ∧ Rows.fnExactEscapeTextSpec.post enc Tryd.prog Tryd.f3 false true false false W args v W' := by
  have hent := ent_of hL
  have hW' := hW
  obtain ⟨p, q, hA0, hV, rfl, hfz, hnd⟩ := hW
  have hA : DataW.TrodAll enc Tryd.prog W 0 (fun _ => true) true Tryd.f3.params.toList args.toList ds p := hA0
  rw [Tryd.params3] at hA hval
  obtain ⟨v0, vs0, d0, ds0, p0, q0, hargs, rfl, rfl, h0, r0⟩ := trodAll_cons hA
  obtain ⟨rfl, rfl, rfl⟩ := trodAll_nil r0
  obtain rfl : args = #[v0] := by cases args; simp_all
  obtain ⟨a0, rfl, rfl, rfl, w0⟩ := open_string Tryd.underlying9 (hval 0 9 v0 rfl rfl) h0
  clear hA0
  refine (walk a0 W w0 hent).mono fun e W' ⟨he, bel⟩ => ?_
  subst he
  have hV0 := hV
  obtain ⟨g, t, cs, fuel, dv, pv, rfl, hg, ht, hvar, hd, rfl⟩ := trodVars_one hV
  have hv' := Below.trodVars laidOut bel (ns := Rows.fnExactEscapeTextSpec.vars) (by kernel_rfl) hV0
  exact ⟨_, rfl, _, _, _, [], _, _, hW', trodAll_mk1 (shut_bool Tryd.underlying4 _), (trodAll_cons_mk (shut_string Tryd.underlying9 w0) trodAll_mk0), hv', bel.frame _, fun h => by cases h⟩

/-- A world for the witness: the settled one, the table (block 0) holding what its initialiser lays. -/
def laidHeap (h : Array Obj) : Array Obj := h.modify 0 fun
  | .cells _ t frozen => .cells entArr t frozen
  | o => o
def laidOver (w : World) : World := { w with heap := laidHeap w.heap }
theorem laid_met (os : Os) : laidMet Tryd.prog Rows.fnExactEscapeTextRow.laid ((laidOver (World.holding Tryd.prog os ⟨#[], #[], []⟩)).forCall (fun _ _ => 0) ⟨#[], #[.string ByteArray.empty], []⟩).memory :=
  laidMet_of_run' 8 (by kernel_rfl) (by kernel_rfl)
theorem reads (os : Os) {H : Type} (enc : TypeId × Value → H) : ∃ places, DataW.whole enc Tryd.prog ((laidOver (World.holding Tryd.prog os ⟨#[], #[], []⟩)).forCall (fun _ _ => 0) ⟨#[], #[.string ByteArray.empty], []⟩).memory Tryd.f3.params.toList Rows.fnExactEscapeTextSpec.vars false #[Value.string ByteArray.empty].toList 8 = some ([.lit (.string [])], [Rows.laid_loop_example_g00343_impl_entities], places) :=
  ⟨MemPlace.row ⟨0, 0, none⟩ 15, by kernel_rfl⟩

set_option maxRecDepth 100000 in
theorem lifted (os : Os) (started : os.Started) (H : Type) (enc : TypeId × Value → H) (F : Stop.Interp) :
    ReturnsInHanded {} Tryd.checked os 3 .any ((OpenSpec.ofChange Rows.fnExactEscapeTextSpec).preRow enc Tryd.prog Tryd.f3 Rows.fnExactEscapeTextRow.domain false Rows.fnExactEscapeTextRow.laid) (((OpenSpec.ofChange Rows.fnExactEscapeTextSpec).at F).post enc Tryd.prog Tryd.f3 false true false false) := by
  obtain ⟨places, hx⟩ := reads os enc
  refine returnsInHanded_of_row (C := Tryd.checked) (s := OpenSpec.ofChange Rows.fnExactEscapeTextSpec) own started (by kernel_rfl) Tryd.func3
    (witness_row_at (enc := enc) (C := Tryd.checked) false (laidOver (World.holding Tryd.prog os ⟨#[], #[], []⟩)) #[.string ByteArray.empty] rfl (by kernel_rfl) (by kernel_rfl) (by kernel_rfl)
      (OpenSpec.preRow_of_cond 8 hx (by kernel_rfl) (fun k hk => by cases hk) (by kernel_rfl) (laid_met os))) ?_
  intro W base args ds gs before hval hW _ _ _ hL _ _
  exact contract H enc W base args ds gs before hval hW hL

theorem said : Rows.FnExactEscapeTextSaid :=
  OpenClaim.holds_of_cond 3 Tryd.f3 rfl rfl rfl rfl rfl rfl rfl ⟨rfl, rfl, rfl, rfl, rfl⟩ rfl rfl rfl rfl rfl (by kernel_rfl) Tryd.func3 (by kernel_rfl)
    (of_decide_eq_true (by kernel_rfl)) (by unfold Func.isWrapper; first | (rw [if_pos (by decide +kernel)]; kernel_rfl) | (rw [if_neg (by decide +kernel)]; exact ⟨rfl, rfl⟩))
    (fun os started H enc _ F => by rw [OpenClaim.pre_eq_preRow]; exact lifted os started H enc F)

theorem plain (f : FuncId) (fn : Func) (hf : Tryd.pinned.checked.prog.funcNamed "loop.example/g00343/laws.FnExactEscapeText" = some f) (hfn : Tryd.pinned.checked.prog.funcs[f]? = some fn) :
    false = Tryd.pinned.checked.prog.looks [] ∧ ∀ (j : Nat) t, fn.params[j]? = some t → Tryd.pinned.checked.prog.wantsStandIn t = false := by
  obtain rfl : f = 3 := Option.some.inj ((show Tryd.prog.funcNamed "loop.example/g00343/laws.FnExactEscapeText" = some 3 by kernel_rfl).symm.trans hf) |>.symm
  obtain rfl : fn = Tryd.f3 := (Option.some.inj (Tryd.func3.symm.trans hfn)).symm
  refine ⟨by kernel_rfl, fun j t ht => ?_⟩
  rw [Tryd.params3] at ht
  obtain rfl : t = 9 := by simpa using Array.mem_of_getElem? ht
  exact (show Tryd.prog.wantsStandIn 9 = false by kernel_rfl)
end Esc
theorem fnExactEscapeText_card : Rows.FnExactEscapeTextCardSaid :=
  Claim7.holds_tied_plain_at .later [] _ _ _ _ Esc.said (fun _ h => by cases h) (by kernel_rfl) (fun _ h => by cases h) fnExactEscapeText_row_tie rfl ⟨rfl, rfl⟩ (by kernel_rfl) rfl Esc.plain (by kernel_rfl)
#print axioms fnExactEscapeText_card
end Go.Proofs.YtbnpejijfnigaagDoor
