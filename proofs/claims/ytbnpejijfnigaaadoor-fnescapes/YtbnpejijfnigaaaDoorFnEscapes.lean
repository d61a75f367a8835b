/- Whatever bytes are handed in, the law FnEscapes answers true: UnescapeText's code, of the text drawn from them, is the specification's, and what is read of a text comes back once escaped and read again; EscapeText's code, of the other text drawn, is the specification's; where that is OK its text has no sign of a mark and no quote, reads back as the text, and is the specification's own; the bytes handed in read afterwards as before. Condition, tied to the program's own text: the table of entities holds what its initialiser lays. -/
import Derived.Test.YtbnpejijfnigaaaDoorWalk
import Derived.Test.YtbnpejijfnigaaaDoorCards
import Derived.Test.YtbnpejijfnigaaaDoorTie
import Derived.ProofKit
import Derived.OpenShut
import Derived.ShutString
import Derived.ChangeOld
import Derived.Below
import Derived.OpenVars
import Derived.Deep.DeepHandedRow
import Derived.Lib.LaidTab
namespace Go.Proofs.YtbnpejijfnigaaaDoor
open Go.ChangeShapes Go.WideShapes Go.ChangeAt Go.RowKit
set_option linter.unusedVariables false
namespace Esc
theorem Ent.pos {w : World} (h : Ent w) : 0 < w.heap.size := by
  rcases Nat.eq_zero_or_pos w.heap.size with h0 | h0
  · have := h 0 (by decide)
    simp [World.cell?, h0, entVals] at this
  · exact h0
/-! ### from the row's list to the table's cells -/
theorem own : ownKnob Tryd.prog.godebug = none := by kernel_rfl
theorem laidOut : laidOutB Tryd.prog = true := by kernel_rfl
theorem gTab : Tryd.prog.globalNamed "loop.example/g00343/impl.entities" = some 0 := by kernel_rfl
theorem gTabType : (Tryd.prog.globals[0]?).map (·.type) = some 58 := by kernel_rfl
theorem cellsTA : Tryd.prog.cellsOf 58 = 15 := by kernel_rfl
theorem cellsTE : Tryd.prog.cellsOf 57 = 3 := by kernel_rfl
theorem cells9 : Tryd.prog.cellsOf 9 = 1 := by kernel_rfl
theorem cells5 : Tryd.prog.cellsOf 5 = 1 := by kernel_rfl
theorem cells4 : Tryd.prog.cellsOf 4 = 1 := by kernel_rfl

/-- One row of the table: its three cells. -/
theorem entity {H : Type} {enc : TypeId × Value → H} {w : World} {base : Nat} {sp : Nat → Bool} {held : Bool} {fuel : Nat} {cs : List Value} {l : List UInt8} {z : Int} {b : Bool} {p : List MemPlace}
    (h : DataW.trod enc Tryd.prog w base sp held fuel 57 cs = some (.agg [.lit (.string l), .lit (.int .u8 z), .lit (.bool b)], p)) :
    cs = [.string ⟨l.toArray⟩, .int .u8 z, .bool b] := by
  obtain ⟨xs, n, rfl, hx, hlen, hxl, hf⟩ := DataW.trod_struct Tryd.underlying57 h
  have h0 := hf 0 _ rfl
  have h1 := hf 1 _ rfl
  have h2 := hf 2 _ rfl
  rw [cellsTE] at hlen
  match cs, hlen with
  | [a, b', c], _ =>
    match xs, hxl with
    | [x0, x1, x2], _ =>
      simp at h0 h1 h2 hx
      obtain ⟨s0, e0, f0, _⟩ := DataW.trod_string Tryd.underlying9 h0
      obtain ⟨n1, e1, f1, _⟩ := DataW.trod_int Tryd.underlying5 h1
      obtain ⟨b2, e2, f2⟩ := DataW.trod_bool Tryd.underlying4 h2
      subst f0 f1 f2
      rw [cells9] at e0
      rw [cells5] at e1
      rw [cells4] at e2
      simp at e0 e1 e2 hx
      obtain ⟨⟨g0, g1, g2⟩, _⟩ := hx
      subst e0 e1 e2 g1 g2
      rw [g0]

theorem var_ent {W : World} (h : laidMetH Tryd.prog Rows.fnEscapesRow.laid W) : ∃ cs, W.var? Tryd.prog "loop.example/g00343/impl.entities" = some cs ∧ cs.toList = entVals := by
  obtain ⟨ps, ⟨g', t', cs, fuel, p, q, hg', ht', hvar, hd, _, _⟩, _⟩ := h
  obtain rfl := Option.some.inj (gTab.symm.trans hg')
  obtain rfl := Option.some.inj (gTabType.symm.trans ht')
  refine ⟨cs, hvar, ?_⟩
  obtain ⟨xs, m, rfl, hx, hlen, hxl, hf⟩ := DataW.trod_array Tryd.underlying58 hd
  have f0 := hf 0 (by decide)
  have f1 := hf 1 (by decide)
  have f2 := hf 2 (by decide)
  have f3 := hf 3 (by decide)
  have f4 := hf 4 (by decide)
  rw [cellsTE] at f0 f1 f2 f3 f4
  rw [cellsTA] at hlen
  match xs, hxl with
  | [x0, x1, x2, x3, x4], _ =>
    obtain ⟨d0, p0⟩ := x0
    obtain ⟨d1, p1⟩ := x1
    obtain ⟨d2, p2⟩ := x2
    obtain ⟨d3, p3⟩ := x3
    obtain ⟨d4, p4⟩ := x4
    simp only [Rows.laid_loop_example_g00343_impl_entities, List.map_cons, List.map_nil, Prod.mk.injEq, DataW.agg.injEq, List.cons.injEq, and_true] at hx
    obtain ⟨⟨rfl, rfl, rfl, rfl, rfl⟩, _⟩ := hx
    generalize cs.toList = l at *
    have g0 := entity f0
    have g1 := entity f1
    have g2 := entity f2
    have g3 := entity f3
    have g4 := entity f4
    have hl : l = (l.drop 0).take 3 ++ ((l.drop 3).take 3 ++ ((l.drop 6).take 3 ++ ((l.drop 9).take 3 ++ (l.drop 12).take 3))) := by
      match l, hlen with
      | [a0, a1, a2, a3, a4, a5, a6, a7, a8, a9, a10, a11, a12, a13, a14], _ => rfl
    rw [hl]
    simp only [Nat.reduceMul] at g0 g1 g2 g3 g4
    rw [g0, g1, g2, g3, g4]
    rfl

theorem ent_of {W : World} (h : laidMetH Tryd.prog Rows.fnEscapesRow.laid W) : Ent W := by
  obtain ⟨cs, hv, hcs⟩ := var_ent h
  intro i hi
  rw [World.var?_cell gTab hv i, ← hcs]
  simp
theorem var_below {B : Nat} {W W' : World} {cs : Array Value} (h : W.var? Tryd.prog "loop.example/g00343/impl.entities" = some cs) (hB : Below B W W') (h0 : 0 < B) : W'.var? Tryd.prog "loop.example/g00343/impl.entities" = some cs := by
  rw [← h]
  simp only [World.var?, gTab, Option.bind_some]
  rw [hB.block 0 h0]


/-- A slice of bytes that came in, as the walk reads it. -/
theorem code_at {W : World} {len cap : Nat} {zs : List Int} {x : Addr} (hl : len ≤ cap) (hz : zs.length = cap) (hcell : ∀ i, i < zs.length → W.cell? (x.add i) = some (.int .u8 (zs.getD i 0))) (hwz : ∀ n ∈ zs, (Lit.int .u8 n).wf = true) : Drw.CodeAt W.heap.size W (some x) len := by
  by_cases h0 : len = 0
  · exact .inl h0
  · obtain ⟨b, off, spot⟩ := x
    have hc := hcell 0 (by omega)
    have hspot : spot = none := by simpa [Addr.add] using World.cell?_spot hc
    subst hspot
    refine .inr ⟨b, off, rfl, ?_, fun i hi => ?_⟩
    · have hc0 : W.cell? ⟨b, off, none⟩ = some (.int .u8 (zs.getD 0 0)) := by simpa [Addr.add] using hc
      by_cases hb : b < W.heap.size
      · exact hb
      · simp [World.cell?, Array.getElem?_eq_none (Nat.le_of_not_lt hb)] at hc0
    · have hci := hcell i (by omega)
      have hw := hwz (zs.getD i 0) (by
        rw [List.getD_eq_getElem?_getD, List.getElem?_eq_getElem (by omega), Option.getD_some]
        exact List.getElem_mem _)
      generalize zs.getD i 0 = z at *
      have hz0 := bounds_u8 hw
      refine ⟨z.toNat, by omega, ?_⟩
      have : ((z.toNat : Nat) : Int) = z := by omega
      rw [this]
      by_cases hi0 : i = 0
      · subst hi0
        simpa [Addr.add] using hci
      · simpa [Addr.add, hi0] using hci

/-- What the walk gives, for all bytes and every world that holds the table. -/
theorem contract (H : Type) (enc : TypeId × Value → H) (W : World) (base : Nat) (args : Array Value) (ds gs : List (DataW H)) (before : List MemPlace)
    (hval : ∀ (j : Nat) t v, Tryd.f3.params[j]? = some t → args[j]? = some v → Value.okWide Tryd.prog W .any base t v)
    (hW : DataW.Whole enc Tryd.prog Tryd.f3.params.toList Rows.fnEscapesSpec.vars false W args.toList ds gs before) (hL : laidMetH Tryd.prog Rows.fnEscapesRow.laid W) :
    Calls Tryd.prog 3 args W fun e W' => ∃ v, e = .returned v ∧ Rows.fnEscapesSpec.post enc Tryd.prog Tryd.f3 false true false false W args v W' := by
  have hent := ent_of hL
  have hW' := hW
  obtain ⟨p, q, hA0, hV, rfl, hfz, hnd⟩ := hW
  have hA : DataW.TrodAll enc Tryd.prog W 0 (fun _ => true) true Tryd.f3.params.toList args.toList ds p := hA0
  rw [Tryd.params3] at hA hval
  obtain ⟨v0, vs0, d0, ds0, p0, q0, hargs, rfl, rfl, h0, r0⟩ := trodAll_cons hA
  obtain ⟨rfl, rfl, rfl⟩ := trodAll_nil r0
  obtain rfl : args = #[v0] := by cases args; simp_all
  obtain ⟨a0, len0, cap0, rfl⟩ := okWide_slice Tryd.underlying22 (hval 0 22 v0 rfl rfl)
  have k0 := h0
  have lt0 : ∀ x ∈ p0, x.block < W.heap.size := by obtain ⟨m, hm⟩ := k0; exact DataW.trod_lt m _ _ _ hm
  have w0 : Drw.CodeAt W.heap.size W a0 len0 ∧ len0 ≤ maxLen := by
    obtain ⟨fuel, hf⟩ := h0
    rcases open_ints Tryd.underlying22 Tryd.underlying5 (by kernel_rfl) hf with ⟨hcs, _⟩ | ⟨x, l, c, zs, hcs, _, hl, hm, hz, _, hcell, hwz⟩
    · simp [Value.cells] at hcs
      obtain ⟨rfl, rfl, rfl⟩ := hcs
      exact ⟨.inl rfl, Nat.zero_le _⟩
    · simp [Value.cells] at hcs
      obtain ⟨rfl, rfl, rfl⟩ := hcs
      exact ⟨code_at hl (by simpa using hz) hcell hwz, Nat.le_trans hl hm⟩
  clear hA0
  refine (Un.escapes len0 cap0 a0 W w0.1 w0.2 hent hent.pos).mono fun e W' ⟨he, bel⟩ => ?_
  subst he
  have hV0 := hV
  obtain ⟨g, t, cs, fuel, dv, pv, rfl, hg, ht, hvar, hd, rfl⟩ := trodVars_one hV
  have hv' := Below.trodVars laidOut bel (ns := Rows.fnEscapesSpec.vars) (by kernel_rfl) hV0
  exact ⟨_, rfl, _, _, _, [], _, _, hW', trodAll_mk1 (shut_bool Tryd.underlying4 _), (trodAll_cons_mk (Below.trod laidOut (by kernel_rfl) (of_decide_eq_true (by kernel_rfl)) k0 bel lt0) trodAll_mk0), hv', bel.frame _, fun h => by cases h⟩

/-- A world for the witness: the settled one, the table (block 0) holding what its initialiser lays. -/
def laidHeap (h : Array Obj) : Array Obj := h.modify 0 fun
  | .cells _ t frozen => .cells entArr t frozen
  | o => o
def laidOver (w : World) : World := { w with heap := laidHeap w.heap }
theorem laid_met (os : Os) : laidMet Tryd.prog Rows.fnEscapesRow.laid ((laidOver (World.holding Tryd.prog os ⟨#[], #[], []⟩)).forCall (fun _ _ => 0) ⟨#[], #[.slice Option.none 0 0], []⟩).memory :=
  laidMet_of_run' 8 (by kernel_rfl) (by kernel_rfl)
theorem reads (os : Os) {H : Type} (enc : TypeId × Value → H) : ∃ places, DataW.whole enc Tryd.prog ((laidOver (World.holding Tryd.prog os ⟨#[], #[], []⟩)).forCall (fun _ _ => 0) ⟨#[], #[.slice Option.none 0 0], []⟩).memory Tryd.f3.params.toList Rows.fnEscapesSpec.vars false #[Value.slice Option.none 0 0].toList 8 = some ([.nil], [Rows.laid_loop_example_g00343_impl_entities], places) :=
  ⟨MemPlace.row ⟨0, 0, Option.none⟩ 15, by kernel_rfl⟩

set_option maxRecDepth 100000 in
theorem lifted (os : Os) (started : os.Started) (H : Type) (enc : TypeId × Value → H) (F : Stop.Interp) :
    ReturnsInHanded {} Tryd.checked os 3 .any ((OpenSpec.ofChange Rows.fnEscapesSpec).preRow enc Tryd.prog Tryd.f3 Rows.fnEscapesRow.domain false Rows.fnEscapesRow.laid) (((OpenSpec.ofChange Rows.fnEscapesSpec).at F).post enc Tryd.prog Tryd.f3 false true false false) := by
  obtain ⟨places, hx⟩ := reads os enc
  refine returnsInHanded_of_row (C := Tryd.checked) (s := OpenSpec.ofChange Rows.fnEscapesSpec) own started (by kernel_rfl) Tryd.func3
    (witness_row_at (enc := enc) (C := Tryd.checked) false (laidOver (World.holding Tryd.prog os ⟨#[], #[], []⟩)) #[.slice Option.none 0 0] rfl (by kernel_rfl) (by kernel_rfl) (by kernel_rfl)
      (OpenSpec.preRow_of_cond 8 hx (by kernel_rfl) (fun k hk => by cases hk) (by kernel_rfl) (laid_met os))) ?_
  intro W base args ds gs before hval hW _ _ _ hL _ _
  exact contract H enc W base args ds gs before hval hW hL

theorem said : Rows.FnEscapesSaid :=
  OpenClaim.holds_of_cond 3 Tryd.f3 rfl rfl rfl rfl rfl rfl rfl ⟨rfl, rfl, rfl, rfl, rfl⟩ rfl rfl rfl rfl rfl (by kernel_rfl) Tryd.func3 (by kernel_rfl)
    (of_decide_eq_true (by kernel_rfl)) (by unfold Func.isWrapper; first | (rw [if_pos (by decide +kernel)]; kernel_rfl) | (rw [if_neg (by decide +kernel)]; exact ⟨rfl, rfl⟩))
    (fun os started H enc _ F => by rw [OpenClaim.pre_eq_preRow]; exact lifted os started H enc F)

theorem plain (f : FuncId) (fn : Func) (hf : Tryd.pinned.checked.prog.funcNamed "loop.example/g00343/laws.FnEscapes" = some f) (hfn : Tryd.pinned.checked.prog.funcs[f]? = some fn) :
    false = Tryd.pinned.checked.prog.looks [] ∧ ∀ (j : Nat) t, fn.params[j]? = some t → Tryd.pinned.checked.prog.wantsStandIn t = false := by
  obtain rfl : f = 3 := Option.some.inj ((show Tryd.prog.funcNamed "loop.example/g00343/laws.FnEscapes" = some 3 by kernel_rfl).symm.trans hf) |>.symm
  obtain rfl : fn = Tryd.f3 := (Option.some.inj (Tryd.func3.symm.trans hfn)).symm
  refine ⟨by kernel_rfl, fun j t ht => ?_⟩
  rw [Tryd.params3] at ht
  obtain rfl : t = 22 := by simpa using Array.mem_of_getElem? ht
  exact (show Tryd.prog.wantsStandIn 22 = false by kernel_rfl)
end Esc
theorem fnEscapes_card : Rows.FnEscapesCardSaid :=
  Claim7.holds_tied_plain_at .later [] _ _ _ _ Esc.said (fun _ h => by cases h) (by kernel_rfl) (fun _ h => by cases h) fnEscapes_row_tie rfl ⟨rfl, rfl⟩ (by kernel_rfl) rfl Esc.plain (by kernel_rfl)
#print axioms fnEscapes_card
end Go.Proofs.YtbnpejijfnigaaaDoor
