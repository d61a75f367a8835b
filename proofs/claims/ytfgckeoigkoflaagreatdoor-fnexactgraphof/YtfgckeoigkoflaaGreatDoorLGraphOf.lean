/- Whatever list of steps is handed in, GraphOf answers as the specification's GraphOf does, in code, in every node and in every flow; it writes into no step, its answer owns its memory and shares none with the steps, nor with the answer of another call; the list reads afterwards as before. Condition, tied to the program's own text: the tables of rules of steps and of nodes hold what their initialisers lay. -/
import Derived.Test.YtfgckeoigkoflaaGreatDoorJGraphOf31
import Derived.Test.YtfgckeoigkoflaaGreatDoorJGraphOf32
import Derived.Test.YtfgckeoigkoflaaGreatDoorJGraphOf10
import Derived.Test.YtfgckeoigkoflaaGreatDoorJGraphOf18
import Derived.Test.YtfgckeoigkoflaaGreatDoorJGraphOf24
import Derived.Test.YtfgckeoigkoflaaGreatDoorJGraphOf50
namespace Go.Proofs.YtfgckeoigkoflaaGreatDoor
open Go.ChangeShapes Go.WideShapes Go.ChangeAt Go.RowKit
open Go.ChangeMaps (open_string shut_string)
set_option linter.unusedVariables false
namespace GoLaw
open Ex (hid)
open Pf (Rul pFault)
open St
open Gr (GA GIn GO NRul graphR graph_few2 Few2 GraphD kG mkG)
theorem kept_cell {w w' : World} {B b o : Nat} {v : Value} (h : Below B w w') (hb : b < B) (hc : w.cell? ⟨b, o, none⟩ = some v) : w'.cell? ⟨b, o, none⟩ = some v := (h.cell (p := ⟨b, o, none⟩) hb).trans hc
theorem of_nk {w w' : World} {B C : Nat} (h : Nk.Amid w w' B C) : St.Amid w w' B C := ⟨h.os, h.tape, h.output, h.size, h.block⟩
theorem amid_cell {w w' : World} {B C b o : Nat} {v : Value} (h : St.Amid w w' B C) (hb : b < B ∨ C ≤ b) (hc : w.cell? ⟨b, o, none⟩ = some v) : w'.cell? ⟨b, o, none⟩ = some v := by
  have hl : b < w.heap.size := by
    rcases Nat.lt_or_ge b w.heap.size with h1 | h1
    · exact h1
    · simp [World.cell?, Array.getElem?_eq_none h1] at hc
  simp only [World.cell?] at hc ⊢
  rw [h.block b hl hb]
  exact hc
theorem amid_below {w0 w w' : World} {B C : Nat} (h : Below w0.heap.size w0 w) (ham : St.Amid w w' B C) (hB : w0.heap.size ≤ B) : Below w0.heap.size w0 w' :=
  ⟨ham.os.trans h.os, ham.tape.trans h.tape, ham.output.trans h.output, Nat.le_trans h.size ham.size, fun b hb => (ham.block b (by have := h.size; omega) (.inl (by omega))).trans (h.block b hb)⟩
theorem lensC {ss : List StepD} (h : Small 1048576 ss) : ∀ j, j < ss.length → lenC ss j ≤ 1048576 := fun j hj => by
  have := (h.at hj).2.1
  rw [lenC_eq hj]; omega
theorem lensE {ss : List StepD} (h : Small 1048576 ss) : ∀ j, j < ss.length → lenE ss j ≤ 1048576 := fun j hj => by
  have := (h.at hj).2.2
  rw [lenE_eq hj]; omega
set_option maxRecDepth 100000 in
set_option maxHeartbeats 8000000 in
theorem walk (l : List StepD) (v1 : Value) (w : World) (hl : l.length ≤ maxLen) (kl : Ok l) (h1 : At w 0 v1 l) (hr : Rul w) (hn : NRul w) :
    Calls Tryz.prog 3 #[v1] w fun e w' => e = .returned (.bool true) ∧ Below w.heap.size w w' := by
  have hgl := hr.lt
  have hnl := hn.lt
  have HZ1 := hid (szS 0 l v1 1048576 w (by omega) (by omega) hl kl h1)
  obtain ⟨a1, c1, rfl⟩ := h1.slice
  have H1 := hid h1
  have HR := hid hr
  have HN := hid hn
  clear h1 hl kl hr hn
  go_enter Tryz.func3, Tryz.ntmps3
  go_wp2_with fail
  refine HZ1.out.mono ?_
  rintro e w1 ⟨⟨r1, rfl, r1a, r1b, r1c⟩, B1⟩
  by_cases q1 : r1 < 0
  · go_wp2
    go_ret
    exact ⟨rfl, B1⟩
  have S1 := hid (r1c (by omega))
  have hln := S1.out.1
  clear r1c HZ1
  have HT1 := hid (fun w' (hb : Below w.heap.size w w') => toS 0 l _ w' S1.out (H1.out.below hb))
  have HT2 := hid (fun w' (hb : Below w.heap.size w w') => toS2 0 l _ w' S1.out (H1.out.below hb))
  have HIK : Hid (∀ (u : Value) (w' : World), Below w.heap.size w w' → At w' 0 u l → Calls Tryz.prog 7 #[u] w' (fun e w2 => (∃ vn vf E F, e = .returned (.agg #[.int .i64 (pFault l), vn, vf]) ∧ GO w2 (w'.heap.size + 1) vn vf (graphR l) E F) ∧ Below w'.heap.size w' w2)) := hid (fun u w' hb hu => Gr.implGraphOf l u w' S1.out hu (HR.out.below hb hgl) (HN.out.below hb hnl))
  have HSP := hid (fun u w' (hu : At w' 0 u l) => Gr.specGraphOf 0 l u w' hu S1.out)
  have HFW := hid (graph_few2 l)
  generalize hcc : pFault l = cc at *
  generalize hxx : graphR l = gg at *
  clear H1 hcc hxx
  go_wp2_with fail
  refine (HT1.out _ B1).mono ?_
  rintro e w2 ⟨u1, rfl, hu1, hb2⟩
  obtain ⟨x1, d1, rfl⟩ := hu1.slice
  have B2 := B1.trans (hb2.mono B1.size)
  have U1 := hid (hu1.mono (Nat.zero_le _))
  clear hu1
  go_wp2_with fail
  refine (HSP.out _ _ U1.out).mono ?_
  rintro e w3 ⟨⟨sn, sf, rfl, hn3, hf3⟩, hb3⟩
  have B3 := B2.trans (hb3.mono B2.size)
  obtain ⟨yn, zn, rfl⟩ := hn3.slice
  obtain ⟨yf, zf, rfl⟩ := hf3.slice
  have HI : Hid (GA w3 0 (.slice yn gg.nodes.length zn) (.slice yf gg.flows.length zf) gg) := hid ⟨hn3.mono (Nat.zero_le _), hf3.mono (Nat.zero_le _)⟩
  have lB3 := B3.size
  clear hn3 hf3 U1 hb2 hb3 B1 B2
  go_wp2_with fail
  have X4 : Below w3.heap.size w3 (w3.alloc (.cells #[.int .i64 cc, .slice yn gg.nodes.length zn, .slice yf gg.flows.length zf] 29)) := (Below.refl _ w3).alloc (Nat.le_refl _) _
  have B4 : Below w.heap.size w (w3.alloc (.cells #[.int .i64 cc, .slice yn gg.nodes.length zn, .slice yf gg.flows.length zf] 29)) := B3.alloc B3.size _
  refine (HT2.out _ B4).mono ?_
  rintro e w5 ⟨u2, rfl, hu2, hw2, hb5⟩
  obtain ⟨x2, d2, rfl⟩ := hu2.slice
  have B5 := B4.trans (hb5.mono B4.size)
  have X5 := X4.trans (hb5.mono X4.size)
  simp only [World.size_alloc] at hb5 hw2
  have U2 := hid (hu2.mono (Nat.zero_le _))
  have W2 := hid hw2
  have l5 : w3.heap.size + 1 ≤ w5.heap.size := by have := hb5.size; simpa using this
  have p0 := kept_cell hb5 (b := w3.heap.size) (o := 0) (v := .int .i64 cc) (by omega) (by go_simp)
  have p1 := kept_cell hb5 (b := w3.heap.size) (o := 1) (v := .slice yn gg.nodes.length zn) (by omega) (by go_simp)
  have p2 := kept_cell hb5 (b := w3.heap.size) (o := 2) (v := .slice yf gg.flows.length zf) (by omega) (by go_simp)
  clear hu2 hw2 X4 B4
  go_wp2_with fail
  refine (HIK.out _ _ B5 U2.out).mono ?_
  rintro e w6 ⟨⟨gn, gf, E6, F6, rfl, ho6⟩, hb6⟩
  have B6 := B5.trans (hb6.mono B5.size)
  have X6 := X5.trans (hb6.mono X5.size)
  have l6 : w5.heap.size ≤ w6.heap.size := hb6.size
  have p06 := kept_cell hb6 (by omega) p0
  have p16 := kept_cell hb6 (by omega) p1
  have p26 := kept_cell hb6 (by omega) p2
  obtain ⟨in1, ic1, rfl⟩ := ho6.ga.nodes.slice
  obtain ⟨if1, jc1, rfl⟩ := ho6.ga.flows.slice
  have O6 := hid ho6.into
  have U26 := hid (U2.out.below hb6)
  have W26 := hid (W2.out.below hb6)
  have hl3 : w3.heap.size < w6.heap.size := by omega
  clear ho6 U2 W2 p0 p1 p2 hb5 hb6 X5
  go_wp2_with fail
  have hx7 : Below w6.heap.size w6 (w6.alloc (.cells #[.int .i64 cc, .slice in1 gg.nodes.length ic1, .slice if1 gg.flows.length jc1] 29)) := (Below.refl _ w6).alloc (Nat.le_refl _) _
  have B7 := B6.trans (hx7.mono B6.size)
  have X7 := X6.trans (hx7.mono X6.size)
  refine (Gr.eqRes 0 0 cc gg _ _ _ _ _ HFW.out ((O6.out.below (Nat.le_refl _) hx7).ga.mono (Nat.zero_le _)) (HI.out.below X7)).mono ?_
  rintro e w8 ⟨rfl, hb8⟩
  have B8 := B7.trans (hb8.mono B7.size)
  simp only [World.size_alloc] at hb8
  have l8 : w6.heap.size + 1 ≤ w8.heap.size := by have := hb8.size; simpa using this
  have hx8 : Below w6.heap.size w6 w8 := hx7.trans (hb8.mono (by omega))
  have X8 := X6.trans (hx8.mono X6.size)
  have p08 := kept_cell hx8 (by omega) p06
  have p18 := kept_cell hx8 (by omega) p16
  have p28 := kept_cell hx8 (by omega) p26
  have g08 := kept_cell hb8 (b := w6.heap.size) (o := 0) (v := .int .i64 cc) (by omega) (by go_simp)
  have g18 := kept_cell hb8 (b := w6.heap.size) (o := 1) (v := .slice in1 gg.nodes.length ic1) (by omega) (by go_simp)
  have g28 := kept_cell hb8 (b := w6.heap.size) (o := 2) (v := .slice if1 gg.flows.length jc1) (by omega) (by go_simp)
  have O8 := hid (O6.out.below (Nat.le_refl _) hx8)
  have U28 := hid (U26.out.below hx8)
  have W28 := hid (W26.out.below hx8)
  clear O6 U26 W26 p06 p16 p26 hb8 hx7 hx8 B7 X6 X7
  go_wp2_with fail
  refine (HT1.out _ B8).mono ?_
  rintro e w9 ⟨u3, rfl, hu3, hb9⟩
  obtain ⟨x3, d3, rfl⟩ := hu3.slice
  have B9 := B8.trans (hb9.mono B8.size)
  have U3 := hid hu3
  clear hu3
  go_wp2_with fail
  refine (eqS _ _ l _ _ _ S1.out (U28.out.below hb9) U3.out).mono ?_
  rintro e w10 ⟨rfl, hb10⟩
  have B10 := B9.trans (hb10.mono B9.size)
  have hx10 : Below w8.heap.size w8 w10 := hb9.trans (hb10.mono hb9.size)
  have X10 := X8.trans (hx10.mono X8.size)
  have l10 := hx10.size
  have p010 := kept_cell hx10 (by omega) p08
  have p110 := kept_cell hx10 (by omega) p18
  have p210 := kept_cell hx10 (by omega) p28
  have g010 := kept_cell hx10 (by omega) g08
  have g110 := kept_cell hx10 (by omega) g18
  have g210 := kept_cell hx10 (by omega) g28
  have O10 := hid (O8.out.below (by omega) hx10)
  have W210 := hid (W28.out.below hx10)
  clear O8 U28 W28 p08 p18 p28 g08 g18 g28 U3 hb9 hb10 hx10 B9 X8
  go_wp2_with fail
  refine (markSteps _ _ _ l.length (lenC l) (lenE l) _ (by omega) (lensC S1.out) (lensE S1.out) W210.out).mono ?_
  rintro e w11 ⟨⟨r11, rfl, hr11⟩, ham⟩
  have l11 := ham.size
  have B11 : Below w.heap.size w w11 := amid_below B10 ham (by omega)
  have X11 : Below w3.heap.size w3 w11 := amid_below X10 ham (by omega)
  have p011 := amid_cell ham (.inl (by omega)) p010
  have p111 := amid_cell ham (.inl (by omega)) p110
  have p211 := amid_cell ham (.inl (by omega)) p210
  have g011 := amid_cell ham (.inr (by omega)) g010
  have g111 := amid_cell ham (.inr (by omega)) g110
  have g211 := amid_cell ham (.inr (by omega)) g210
  have O11 := hid (O10.out.keep (fun b hb1 hb2 => ham.block b (by omega) (.inr (by omega))))
  have q11 : ¬ r11 < 0 := by omega
  clear O10 W210 p010 p110 p210 g010 g110 g210 ham X10
  go_wp2_with fail
  refine (Gr.eqRes 0 0 cc gg _ _ _ _ _ HFW.out (O11.out.ga.mono (Nat.zero_le _)) (HI.out.below X11)).mono ?_
  rintro e w12 ⟨rfl, hb12⟩
  have B12 := B11.trans (hb12.mono B11.size)
  have X12 := X11.trans (hb12.mono X11.size)
  have l12 := hb12.size
  have p012 := kept_cell hb12 (by omega) p011
  have p112 := kept_cell hb12 (by omega) p111
  have p212 := kept_cell hb12 (by omega) p211
  have g012 := kept_cell hb12 (by omega) g011
  have g112 := kept_cell hb12 (by omega) g111
  have g212 := kept_cell hb12 (by omega) g211
  have O12 := hid (O11.out.below (by omega) hb12)
  clear O11 p011 p111 p211 g011 g111 g211 hb12 X11
  go_wp2_with fail
  refine (Gr.markRes _ _ cc gg _ _ _ (by omega) HFW.out O12.out).mono ?_
  rintro e w13 ⟨rfl, ho13, ham0⟩
  have ham := of_nk ham0
  clear ham0
  have l13 := ham.size
  have B13 : Below w.heap.size w w13 := amid_below B12 ham (by omega)
  have X13 : Below w3.heap.size w3 w13 := amid_below X12 ham (by omega)
  have p013 := amid_cell ham (.inl (by omega)) p012
  have p113 := amid_cell ham (.inl (by omega)) p112
  have p213 := amid_cell ham (.inl (by omega)) p212
  have g013 := amid_cell ham (.inr (by omega)) g012
  have g113 := amid_cell ham (.inr (by omega)) g112
  have g213 := amid_cell ham (.inr (by omega)) g212
  have M13 := hid (ho13.mono (Nat.zero_le _))
  clear O12 p012 p112 p212 g012 g112 g212 ham ho13 X12
  have HHR := hid (fun w' (h : GA w' 0 (.slice in1 gg.nodes.length ic1) (.slice if1 gg.flows.length jc1) (mkG gg)) => Gr.heldRes 0 cc gg _ _ w' HFW.out h)
  generalize kG gg = kk at *
  go_wp2_with fail
  refine (HHR.out _ M13.out).mono ?_
  rintro e w14 ⟨rfl, hb14⟩
  have B14 := B13.trans (hb14.mono B13.size)
  have X14 := X13.trans (hb14.mono X13.size)
  have l14 := hb14.size
  have p014 := kept_cell hb14 (by omega) p013
  have p114 := kept_cell hb14 (by omega) p113
  have p214 := kept_cell hb14 (by omega) p213
  have g014 := kept_cell hb14 (by omega) g013
  have g114 := kept_cell hb14 (by omega) g113
  have g214 := kept_cell hb14 (by omega) g213
  have M14 := hid (M13.out.below hb14)
  have qq1 : ¬ (kk : Int) < 0 := by omega
  have qq2 : ((kk : Int) != (kk : Int)) = false := by simp
  clear M13 p013 p113 p213 g013 g113 g213 hb14 X13
  go_wp2_with fail
  refine (HT1.out _ B14).mono ?_
  rintro e w15 ⟨u4, rfl, hu4, hb15⟩
  obtain ⟨x4, d4, rfl⟩ := hu4.slice
  have B15 := B14.trans (hb15.mono B14.size)
  have U4 := hid (hu4.mono (Nat.zero_le _))
  clear hu4
  go_wp2_with fail
  refine (HIK.out _ _ B15 U4.out).mono ?_
  rintro e w16 ⟨⟨h0, h1, E16, F16, rfl, ho16⟩, hb16⟩
  have B16 := B15.trans (hb16.mono B15.size)
  have hx16 : Below w14.heap.size w14 w16 := hb15.trans (hb16.mono hb15.size)
  have X16 := X14.trans (hx16.mono X14.size)
  have l16 := hx16.size
  have p016 := kept_cell hx16 (by omega) p014
  have p116 := kept_cell hx16 (by omega) p114
  have p216 := kept_cell hx16 (by omega) p214
  have g016 := kept_cell hx16 (by omega) g014
  have g116 := kept_cell hx16 (by omega) g114
  have g216 := kept_cell hx16 (by omega) g214
  have M16 := hid (M14.out.below hx16)
  have J16 := hid (ho16.ga.mono (Nat.zero_le _))
  obtain ⟨jn, jm, rfl⟩ := ho16.ga.nodes.slice
  obtain ⟨jf, jg, rfl⟩ := ho16.ga.flows.slice
  have lb6 : w3.heap.size < w16.heap.size := by omega
  have lb8 : w6.heap.size < w16.heap.size := by omega
  clear M14 p014 p114 p214 g014 g114 g214 ho16 hb15 hb16 hx16 U4 X14
  go_wp2_with fail
  have hx17 : Below w16.heap.size w16 (w16.alloc (.cells #[.int .i64 cc, .slice jn gg.nodes.length jm, .slice jf gg.flows.length jg] 29)) := (Below.refl _ w16).alloc (Nat.le_refl _) _
  have B17 := B16.trans (hx17.mono B16.size)
  have X17 := X16.trans (hx17.mono X16.size)
  refine (Gr.eqRes 0 0 cc gg _ _ _ _ _ HFW.out (J16.out.below hx17) (HI.out.below X17)).mono ?_
  rintro e w18 ⟨rfl, hb18⟩
  have B18 := B17.trans (hb18.mono B17.size)
  have hx18 : Below w16.heap.size w16 w18 := hx17.trans (hb18.mono (by simp))
  have g018 := kept_cell hx18 lb8 g016
  have g118 := kept_cell hx18 lb8 g116
  have g218 := kept_cell hx18 lb8 g216
  have M18 := hid (M16.out.below hx18)
  clear M16 J16 p016 p116 p216 g016 g116 g216 hb18 hx17 X16 X17
  go_wp2_with fail
  refine (HHR.out _ M18.out).mono ?_
  rintro e w19 ⟨rfl, hb19⟩
  have B19 := B18.trans (hb19.mono B18.size)
  go_wp2
  go_ret
  exact ⟨rfl, B19⟩
set_option maxRecDepth 100000 in
theorem contract (H : Type) (enc : TypeId × Value → H) (W : World) (base : Nat) (args : Array Value) (ds gs : List (DataW H)) (before : List MemPlace)
    (hval : ∀ (j : Nat) t v, Tryz.f3.params[j]? = some t → args[j]? = some v → Value.okWide Tryz.prog W .any base t v)
    (hW : DataW.Whole enc Tryz.prog Tryz.f3.params.toList Rows.fnExactGraphOfSpec.vars false W args.toList ds gs before) (hL : laidMetH Tryz.prog Rows.fnExactGraphOfRow.laid W) :
    Calls Tryz.prog 3 args W fun e W' => ∃ v, e = .returned v ∧ Rows.fnExactGraphOfSpec.post enc Tryz.prog Tryz.f3 false true false false W args v W' := by
  have hent := Crd8.rul_in hL (by kernel_rfl)
  have hnr := Crd8.nrul_in hL (by kernel_rfl)
  have hW' := hW
  obtain ⟨p, q, hA0, hV, rfl, hfz, hnd⟩ := hW
  have hA : DataW.TrodAll enc Tryz.prog W 0 (fun _ => true) true Tryz.f3.params.toList args.toList ds p := hA0
  rw [Tryz.params3] at hA hval
  obtain ⟨v0, vs0, d0, ds0, p0, q0, hargs, rfl, rfl, h0, r0⟩ := trodAll_cons hA
  obtain ⟨rfl, rfl, rfl⟩ := trodAll_nil r0
  obtain rfl : args = #[v0] := by cases args; simp_all
  obtain ⟨a0, len0, cap0, rfl⟩ := okWide_slice Tryz.underlying22 (hval 0 22 v0 rfl rfl)
  have k0 := h0
  have lt0 : ∀ x ∈ p0, x.block < W.heap.size := by obtain ⟨m, hm⟩ := k0; exact DataW.trod_lt m _ _ _ hm
  obtain ⟨l0, ga0, gb0, gc0⟩ : ∃ es, St.At W 0 (.slice a0 len0 cap0) es ∧ St.Ok es ∧ es.length ≤ maxLen := by
    obtain ⟨fuel, hf⟩ := h0
    exact St.open_all (by simpa [Value.cells] using hf)
  clear hA0
  refine (walk l0 _ W gc0 gb0 ga0 hent hnr).mono fun e W' ⟨he, bel⟩ => ?_
  subst he
  have hV0 := hV
  obtain ⟨g0, t0, cs0, f0, dv0, pv0, g1, t1, cs1, f1, dv1, pv1, rfl, _, _, _, _, _, _, _, _, rfl⟩ := trodVars_two hV
  have hv' := Below.trodVars Crd.laidOut bel (ns := Rows.fnExactGraphOfSpec.vars) (by kernel_rfl) hV0
  exact ⟨_, rfl, _, _, _, [], _, _, hW', trodAll_mk1 (shut_bool Tryz.underlying4 _), (trodAll_cons_mk (Below.trod Crd.laidOut (by kernel_rfl) (of_decide_eq_true (by kernel_rfl)) k0 bel lt0) trodAll_mk0), hv', bel.frame _, fun h => by cases h⟩
theorem laid_met (os : Os) : laidMet Tryz.prog Rows.fnExactGraphOfRow.laid ((Crd8.laidOver (World.holding Tryz.prog os ⟨#[], #[], []⟩)).forCall (fun _ _ => 0) ⟨#[], #[.slice Option.none 0 0], []⟩).memory :=
  laidMet_of_run' 8 (by kernel_rfl) (by kernel_rfl)
theorem reads (os : Os) {H : Type} (enc : TypeId × Value → H) : ∃ places, DataW.whole enc Tryz.prog ((Crd8.laidOver (World.holding Tryz.prog os ⟨#[], #[], []⟩)).forCall (fun _ _ => 0) ⟨#[], #[.slice Option.none 0 0], []⟩).memory Tryz.f3.params.toList Rows.fnExactGraphOfSpec.vars false #[Value.slice Option.none 0 0].toList 8 = some ([.nil], [Rows.laid_loop_example_g00343_impl_stepRules, Rows.laid_loop_example_g00343_impl_nodeRules], places) :=
  ⟨MemPlace.row ⟨1, 0, Option.none⟩ 56 ++ MemPlace.row ⟨0, 0, Option.none⟩ 65, by kernel_rfl⟩
set_option maxRecDepth 100000 in
theorem lifted (os : Os) (started : os.Started) (H : Type) (enc : TypeId × Value → H) (F : Stop.Interp) :
    ReturnsInHanded {} Tryz.checked os 3 .any ((OpenSpec.ofChange Rows.fnExactGraphOfSpec).preRow enc Tryz.prog Tryz.f3 Rows.fnExactGraphOfRow.domain false Rows.fnExactGraphOfRow.laid) (((OpenSpec.ofChange Rows.fnExactGraphOfSpec).at F).post enc Tryz.prog Tryz.f3 false true false false) := by
  obtain ⟨places, hx⟩ := reads os enc
  refine returnsInHanded_of_row (C := Tryz.checked) (s := OpenSpec.ofChange Rows.fnExactGraphOfSpec) Crd.own started (by kernel_rfl) Tryz.func3
    (witness_row_at (enc := enc) (C := Tryz.checked) false (Crd8.laidOver (World.holding Tryz.prog os ⟨#[], #[], []⟩)) #[.slice Option.none 0 0] rfl (by kernel_rfl) (by kernel_rfl) (by kernel_rfl)
      (OpenSpec.preRow_of_cond 8 hx (by kernel_rfl) (fun k hk => by cases hk) (by kernel_rfl) (laid_met os))) ?_
  intro W base args ds gs before hval hW _ _ _ hL _ _
  exact contract H enc W base args ds gs before hval hW hL
theorem said : Rows.FnExactGraphOfSaid :=
  OpenClaim.holds_of_cond 3 Tryz.f3 rfl rfl rfl rfl rfl rfl rfl ⟨rfl, rfl, rfl, rfl, rfl⟩ rfl rfl rfl rfl rfl (by kernel_rfl) Tryz.func3 (by kernel_rfl)
    (of_decide_eq_true (by kernel_rfl)) (by unfold Func.isWrapper; first | (rw [if_pos (by decide +kernel)]; kernel_rfl) | (rw [if_neg (by decide +kernel)]; exact ⟨rfl, rfl⟩))
    (fun os started H enc _ F => by rw [OpenClaim.pre_eq_preRow]; exact lifted os started H enc F)
set_option maxRecDepth 100000 in
theorem plain (f : FuncId) (fn : Func) (hf : Tryz.pinned.checked.prog.funcNamed "loop.example/g00343/laws.FnExactGraphOf" = some f) (hfn : Tryz.pinned.checked.prog.funcs[f]? = some fn) :
    true = Tryz.pinned.checked.prog.looks [] ∧ ∀ (j : Nat) t, fn.params[j]? = some t → Tryz.pinned.checked.prog.wantsStandIn t = false := by
  obtain rfl : f = 3 := Option.some.inj ((show Tryz.prog.funcNamed "loop.example/g00343/laws.FnExactGraphOf" = some 3 by kernel_rfl).symm.trans hf) |>.symm
  obtain rfl : fn = Tryz.f3 := (Option.some.inj (Tryz.func3.symm.trans hfn)).symm
  refine ⟨by kernel_rfl, fun j t ht => ?_⟩
  rw [Tryz.params3] at ht
  obtain rfl : t = 22 := by simpa using Array.mem_of_getElem? ht
  exact (show Tryz.prog.wantsStandIn 22 = false by kernel_rfl)
end GoLaw
theorem fnExactGraphOf_card : Rows.FnExactGraphOfCardSaid :=
  Claim7.holds_tied_plain_at .later [] _ _ _ _ GoLaw.said (fun _ h => by cases h) (by kernel_rfl) (fun _ h => by cases h) fnExactGraphOf_row_tie rfl ⟨rfl, rfl⟩ (by kernel_rfl) rfl GoLaw.plain (by kernel_rfl)
#print axioms fnExactGraphOf_card
end Go.Proofs.YtfgckeoigkoflaaGreatDoor
