/- Whatever list of steps is handed in, PlainOf answers as the specification's PlainOf does, in code and in every step; it writes into no step, its answer owns its memory and shares none with the steps, nor with the answer of another call; the list reads afterwards as before. Condition, tied to the program's own text: the table of rules holds what its initialiser lays. -/
import Derived.Test.YtedgobdnjemegaaDoorJPlainOf7
import Derived.Test.YtedgobdnjemegaaDoorJPlainOf22
import Derived.Test.YtedgobdnjemegaaDoorJPlainOf23
import Derived.Test.YtedgobdnjemegaaDoorJPlainOf24
import Derived.Test.YtedgobdnjemegaaDoorJPlainOf27
import Derived.Test.YtedgobdnjemegaaDoorJPlainOf12
import Derived.Test.YtedgobdnjemegaaDoorJPlainOf13
import Derived.Test.YtedgobdnjemegaaDoorJPlainOf46
namespace Go.Proofs.YtedgobdnjemegaaDoor
open Go.ChangeShapes Go.WideShapes Go.ChangeAt Go.RowKit
open Go.ChangeMaps (open_string shut_string)
set_option linter.unusedVariables false
namespace PlL
open Ex (hid)
open Pf (Rul pFault of_p)
open St
open So (SJ SJ_eq SOwn)
open Sk (SIn kAt mkS)
open Bk (plainR)
open Pl
theorem kept_cell {w w' : World} {B b o : Nat} {v : Value} (h : Below B w w') (hb : b < B) (hc : w.cell? ⟨b, o, none⟩ = some v) : w'.cell? ⟨b, o, none⟩ = some v := (h.cell (p := ⟨b, o, none⟩) hb).trans hc
theorem plainR_small {ss : List StepD} (h : Small 1048576 ss) : Small 1048576 (plainR ss) := by
  unfold plainR
  by_cases hf : pFault ss = 0
  · rw [if_pos hf]
    exact ⟨by have := plain_len hf; have := h.1; omega, small_plain (by omega) h.2⟩
  · rw [if_neg hf]
    exact ⟨by simp, fun s hs => by cases hs⟩
theorem plainR_len (ss : List StepD) : (plainR ss).length ≤ 64 := by
  unfold plainR
  by_cases hf : pFault ss = 0
  · rw [if_pos hf]
    have := plain_len hf
    have := of_p hf
    omega
  · rw [if_neg hf]; simp
theorem few16 {ss : List StepD} (h : pFault ss = 0) {s : StepD} (hs : s ∈ ss) : Small1 16 s := by
  obtain ⟨i, hi, rfl⟩ := List.getElem_of_mem hs
  obtain ⟨h1, h2, h3⟩ := Gr.few h hi
  exact ⟨by omega, by omega, by omega⟩
theorem plainR_sub (ss : List StepD) : ∀ j, j < (plainR ss).length → (SJ (plainR ss) j).cond.length ≤ 64 ∧ (SJ (plainR ss) j).expr.length ≤ 64 := by
  intro j hj
  rw [SJ_eq hj]
  have hm := List.getElem_mem hj
  generalize (plainR ss)[j] = x at *
  unfold plainR at hm
  by_cases hf : pFault ss = 0
  · rw [if_pos hf] at hm
    have := small_plain (n := 16) (by omega) (fun s hs => few16 hf hs) x hm
    have h1 := this.2.1
    have h2 := this.2.2
    omega
  · rw [if_neg hf] at hm
    cases hm
theorem amid_cell {w w' : World} {B C b o : Nat} {v : Value} (h : St.Amid w w' B C) (hb : b < B ∨ C ≤ b) (hc : w.cell? ⟨b, o, none⟩ = some v) : w'.cell? ⟨b, o, none⟩ = some v := by
  have hl : b < w.heap.size := by
    rcases Nat.lt_or_ge b w.heap.size with h1 | h1
    · exact h1
    · simp [World.cell?, Array.getElem?_eq_none h1] at hc
  simp only [World.cell?] at hc ⊢
  rw [h.block b hl hb]
  exact hc
theorem amid_below {w0 w w' : World} {B C : Nat} (h : Below w0.heap.size w0 w) (ham : St.Amid w w' B C) (hB : w0.heap.size ≤ B) : Below w0.heap.size w0 w' :=
  ⟨ham.os.trans h.os, ham.tape.trans h.tape, ham.output.trans h.output, Nat.le_trans h.size ham.size, fun b hb => (ham.block b (by have := h.size; omega) (.inl (by omega))).trans (h.block b hb)⟩
theorem lensC {ss : List StepD} (h : Small 1048576 ss) : ∀ j, j < ss.length → lenC ss j ≤ 1048576 := fun j hj => by
  have := (h.at hj).2.1
  rw [lenC_eq hj]; omega
theorem lensE {ss : List StepD} (h : Small 1048576 ss) : ∀ j, j < ss.length → lenE ss j ≤ 1048576 := fun j hj => by
  have := (h.at hj).2.2
  rw [lenE_eq hj]; omega
set_option maxRecDepth 100000 in
set_option maxHeartbeats 8000000 in
theorem walk (l : List StepD) (v1 : Value) (w : World) (hl : l.length ≤ maxLen) (kl : Ok l) (h1 : At w 0 v1 l) (hr : Rul w) :
    Calls Tryd.prog 3 #[v1] w fun e w' => e = .returned (.bool true) ∧ Below w.heap.size w w' := by
  have hgl := hr.lt
  have HZ1 := hid (szS 0 l v1 1048576 w (by omega) (by omega) hl kl h1)
  obtain ⟨a1, c1, rfl⟩ := h1.slice
  have H1 := hid h1
  have HR := hid hr
  clear h1 hl kl hr
  go_enter Tryd.func3, Tryd.ntmps3
  go_wp2_with fail
  refine HZ1.out.mono ?_
  rintro e w1 ⟨⟨r1, rfl, r1a, r1b, r1c⟩, B1⟩
  by_cases q1 : r1 < 0
  · go_wp2
    go_ret
    exact ⟨rfl, B1⟩
  have S1 := hid (r1c (by omega))
  have hln := S1.out.1
  clear r1c HZ1
  have HT1 := hid (fun w' (hb : Below w.heap.size w w') => toS 0 l _ w' S1.out (H1.out.below hb))
  have HT2 := hid (fun w' (hb : Below w.heap.size w w') => toS2 0 l _ w' S1.out (H1.out.below hb))
  have HIK : Hid (∀ (u : Value) (w' : World), Below w.heap.size w w' → At w' 0 u l → Calls Tryd.prog 8 #[u] w' (fun e w2 => (∃ x, e = .returned (.agg #[.int .i64 (pFault l), x]) ∧ SOwn w2 w'.heap.size x (plainR l)) ∧ Below w'.heap.size w' w2)) := hid (fun u w' hb hu => Bk.implPlainOf l u w' S1.out hu (HR.out.below hb hgl))
  have HSP : Hid (∀ (u : Value) (w' : World), At w' 0 u l → Calls Tryd.prog 6 #[u] w' (fun e w2 => (∃ x, e = .returned (.agg #[.int .i64 (pFault l), x]) ∧ SOwn w2 w'.heap.size x (plainR l)) ∧ Below w'.heap.size w' w2)) := hid (fun u w' hu => Bk.specPlainOf 0 l u w' S1.out hu)
  have HSM := hid (plainR_small S1.out)
  have hlen := plainR_len l
  have HAT := hid (plainR_sub l)
  generalize hcc : pFault l = cc at *
  generalize hxx : plainR l = es at *
  clear H1 hcc hxx
  go_wp2_with fail
  refine (HT1.out _ B1).mono ?_
  rintro e w2 ⟨u1, rfl, hu1, hb2⟩
  obtain ⟨x1, d1, rfl⟩ := hu1.slice
  have B2 := B1.trans (hb2.mono B1.size)
  have U1 := hid (hu1.mono (Nat.zero_le _))
  clear hu1
  go_wp2_with fail
  refine (HSP.out _ _ U1.out).mono ?_
  rintro e w3 ⟨⟨s0, rfl, ho0⟩, hb3⟩
  have B3 := B2.trans (hb3.mono B2.size)
  have I0 := hid (Sk.into ho0)
  obtain ⟨y0, z0, rfl⟩ := ho0.slice
  have lB3 := B3.size
  clear ho0 U1 hb2 hb3 B1 B2
  go_wp2_with fail
  have B4 : Below w.heap.size w (w3.alloc (.cells #[.int .i64 cc, .slice y0 es.length z0] 26)) := B3.alloc B3.size _
  have hx4 : Below w3.heap.size w3 (w3.alloc (.cells #[.int .i64 cc, .slice y0 es.length z0] 26)) := (Below.refl _ w3).alloc (Nat.le_refl _) _
  refine (HT2.out _ B4).mono ?_
  rintro e w5 ⟨u2, rfl, hu2, hw2, hb5⟩
  obtain ⟨x2, d2, rfl⟩ := hu2.slice
  have B5 := B4.trans (hb5.mono B4.size)
  have I05 := hid ((I0.out.below (Nat.le_refl _) hx4).below (by simp) hb5)
  simp only [World.size_alloc] at hb5 hw2
  have U2 := hid (hu2.mono (Nat.zero_le _))
  have W2 := hid hw2
  have l5 : w3.heap.size + 1 ≤ w5.heap.size := by have := hb5.size; simpa using this
  have p0 := kept_cell hb5 (b := w3.heap.size) (o := 0) (v := .int .i64 cc) (by omega) (by go_simp)
  have p2 := kept_cell hb5 (b := w3.heap.size) (o := 1) (v := .slice y0 es.length z0) (by omega) (by go_simp)
  clear hu2 hw2 I0 hx4 B4
  go_wp2_with fail
  refine (HIK.out _ _ B5 U2.out).mono ?_
  rintro e w6 ⟨⟨g0, rfl, ho6⟩, hb6⟩
  have B6 := B5.trans (hb6.mono B5.size)
  have l6 : w5.heap.size ≤ w6.heap.size := hb6.size
  have p06 := kept_cell hb6 (by omega) p0
  have p26 := kept_cell hb6 (by omega) p2
  obtain ⟨y1, z1, rfl⟩ := ho6.slice
  have O6 := hid (Sk.into ho6)
  have I06 := hid (I05.out.below (by omega) hb6)
  have U26 := hid (U2.out.below hb6)
  have W26 := hid (W2.out.below hb6)
  have hl3 : w3.heap.size < w6.heap.size := by omega
  clear ho6 I05 U2 W2 p0 p2 hb5 hb6
  go_wp2_with fail
  have hx7 : Below w6.heap.size w6 (w6.alloc (.cells #[.int .i64 cc, .slice y1 es.length z1] 26)) := (Below.refl _ w6).alloc (Nat.le_refl _) _
  have B7 := B6.trans (hx7.mono B6.size)
  refine (Sk.eqRes 0 0 cc es _ _ _ HSM.out ((O6.out.below (Nat.le_refl _) hx7).own.steps.mono (Nat.zero_le _)) ((I06.out.below (by omega) hx7).own.steps.mono (Nat.zero_le _))).mono ?_
  rintro e w8 ⟨rfl, hb8⟩
  have B8 := B7.trans (hb8.mono B7.size)
  simp only [World.size_alloc] at hb8
  have l8 : w6.heap.size + 1 ≤ w8.heap.size := by have := hb8.size; simpa using this
  have hx8 : Below w6.heap.size w6 w8 := hx7.trans (hb8.mono (by omega))
  have p08 := kept_cell hx8 (by omega) p06
  have p28 := kept_cell hx8 (by omega) p26
  have g08 := kept_cell hb8 (b := w6.heap.size) (o := 0) (v := .int .i64 cc) (by omega) (by go_simp)
  have g28 := kept_cell hb8 (b := w6.heap.size) (o := 1) (v := .slice y1 es.length z1) (by omega) (by go_simp)
  have O8 := hid (O6.out.below (Nat.le_refl _) hx8)
  have I08 := hid (I06.out.below (by omega) hx8)
  have U28 := hid (U26.out.below hx8)
  have W28 := hid (W26.out.below hx8)
  clear O6 I06 U26 W26 p06 p26 hb8 hx7 hx8 B7
  go_wp2_with fail
  refine (HT1.out _ B8).mono ?_
  rintro e w9 ⟨u3, rfl, hu3, hb9⟩
  obtain ⟨x3, d3, rfl⟩ := hu3.slice
  have B9 := B8.trans (hb9.mono B8.size)
  have U3 := hid hu3
  clear hu3
  go_wp2_with fail
  refine (eqS _ _ l _ _ _ S1.out (U28.out.below hb9) U3.out).mono ?_
  rintro e w10 ⟨rfl, hb10⟩
  have B10 := B9.trans (hb10.mono B9.size)
  have hx10 : Below w8.heap.size w8 w10 := hb9.trans (hb10.mono hb9.size)
  have l10 := hx10.size
  have p010 := kept_cell hx10 (by omega) p08
  have p210 := kept_cell hx10 (by omega) p28
  have g010 := kept_cell hx10 (by omega) g08
  have g210 := kept_cell hx10 (by omega) g28
  have O10 := hid (O8.out.below (by omega) hx10)
  have I010 := hid (I08.out.below (by omega) hx10)
  have W210 := hid (W28.out.below hx10)
  clear O8 I08 U28 W28 p08 p28 g08 g28 U3 hb9 hb10 hx10 B9
  go_wp2_with fail
  refine (markSteps _ _ _ l.length (lenC l) (lenE l) _ (by omega) (lensC S1.out) (lensE S1.out) W210.out).mono ?_
  rintro e w11 ⟨⟨r11, rfl, hr11⟩, ham⟩
  have l11 := ham.size
  have B11 : Below w.heap.size w w11 := amid_below B10 ham (by omega)
  have p011 := amid_cell ham (.inl (by omega)) p010
  have p211 := amid_cell ham (.inl (by omega)) p210
  have g011 := amid_cell ham (.inr (by omega)) g010
  have g211 := amid_cell ham (.inr (by omega)) g210
  have O11 := hid (O10.out.keep (fun b hb1 hb2 => ham.block b (by omega) (.inr (by omega))))
  have I011 := hid (I010.out.keep (fun b hb1 hb2 => ham.block b (by omega) (.inl (by omega))))
  have q11 : ¬ r11 < 0 := by omega
  clear O10 I010 W210 p010 p210 g010 g210 ham
  go_wp2_with fail
  refine (Sk.eqRes 0 0 cc es _ _ _ HSM.out (O11.out.own.steps.mono (Nat.zero_le _)) (I011.out.own.steps.mono (Nat.zero_le _))).mono ?_
  rintro e w12 ⟨rfl, hb12⟩
  have B12 := B11.trans (hb12.mono B11.size)
  have l12 := hb12.size
  have p012 := kept_cell hb12 (by omega) p011
  have p212 := kept_cell hb12 (by omega) p211
  have g012 := kept_cell hb12 (by omega) g011
  have g212 := kept_cell hb12 (by omega) g211
  have O12 := hid (O11.out.below (by omega) hb12)
  have I012 := hid (I011.out.below (by omega) hb12)
  clear O11 I011 p011 p211 g011 g211 hb12
  have HMR := hid (Sk.markRes _ _ 1 cc es _ w12 (by omega) hlen (by omega) (by omega) HAT.out O12.out)
  replace HMR := hid HMR.out
  rw [show ((1 : Nat) : Int) = 1 from rfl] at HMR
  go_wp2_with fail
  refine HMR.out.mono ?_
  rintro e w13 ⟨rfl, ho13, ham⟩
  have l13 := ham.size
  have B13 : Below w.heap.size w w13 := Nk.amid_below B12 ham (by omega)
  have p013 := Nk.amid_cell ham (.inl (by omega)) p012
  have p213 := Nk.amid_cell ham (.inl (by omega)) p212
  have g013 := Nk.amid_cell ham (.inr (by omega)) g012
  have g213 := Nk.amid_cell ham (.inr (by omega)) g212
  have M13 := hid (ho13.steps.mono (Nat.zero_le _))
  have I013 := hid (I012.out.keep (fun b hb1 hb2 => ham.block b (by omega) (.inl (by omega))))
  clear O12 I012 p012 p212 g012 g212 ham ho13 HMR
  have HHR := hid (fun w' (h : St.At w' 0 (.slice y1 es.length z1) (mkS 1 es)) => Sk.heldRes 0 1 cc es _ w' hlen (by omega) (by omega) HAT.out h)
  rw [show ((1 : Nat) : Int) = 1 from rfl] at HHR
  generalize hkk : kAt 1 es es.length = kk at *
  have HKK := hid hkk
  clear hkk
  go_wp2_with fail
  refine (HHR.out _ M13.out).mono ?_
  rintro e w14 ⟨rfl, hb14⟩
  have B14 := B13.trans (hb14.mono B13.size)
  have l14 := hb14.size
  have p014 := kept_cell hb14 (by omega) p013
  have p214 := kept_cell hb14 (by omega) p213
  have g014 := kept_cell hb14 (by omega) g013
  have g214 := kept_cell hb14 (by omega) g213
  have M14 := hid (M13.out.below hb14)
  have I014 := hid (I013.out.below (by omega) hb14)
  have qq1 : ¬ (kk : Int) < 0 := by omega
  have qq2 : ((kk : Int) != (kk : Int)) = false := by simp
  clear M13 I013 p013 p213 g013 g213 hb14
  go_wp2_with fail
  refine (HT1.out _ B14).mono ?_
  rintro e w15 ⟨u4, rfl, hu4, hb15⟩
  obtain ⟨x4, d4, rfl⟩ := hu4.slice
  have B15 := B14.trans (hb15.mono B14.size)
  have U4 := hid (hu4.mono (Nat.zero_le _))
  clear hu4
  go_wp2_with fail
  refine (HIK.out _ _ B15 U4.out).mono ?_
  rintro e w16 ⟨⟨h0, rfl, ho16⟩, hb16⟩
  have B16 := B15.trans (hb16.mono B15.size)
  have hx16 : Below w14.heap.size w14 w16 := hb15.trans (hb16.mono hb15.size)
  have l16 := hx16.size
  have p016 := kept_cell hx16 (by omega) p014
  have p216 := kept_cell hx16 (by omega) p214
  have g016 := kept_cell hx16 (by omega) g014
  have g216 := kept_cell hx16 (by omega) g214
  have M16 := hid (M14.out.below hx16)
  have I016 := hid (I014.out.below (by omega) hx16)
  have J16 := hid (ho16.steps.mono (Nat.zero_le _))
  obtain ⟨y2, z2, rfl⟩ := ho16.slice
  have lb6 : w3.heap.size < w16.heap.size := by omega
  have lb8 : w6.heap.size < w16.heap.size := by omega
  clear M14 I014 p014 p214 g014 g214 ho16 hb15 hb16 hx16 U4
  go_wp2_with fail
  have hx17 : Below w16.heap.size w16 (w16.alloc (.cells #[.int .i64 cc, .slice y2 es.length z2] 26)) := (Below.refl _ w16).alloc (Nat.le_refl _) _
  have B17 := B16.trans (hx17.mono B16.size)
  refine (Sk.eqRes 0 0 cc es _ _ _ HSM.out (J16.out.below hx17) ((I016.out.below (by omega) hx17).own.steps.mono (Nat.zero_le _))).mono ?_
  rintro e w18 ⟨rfl, hb18⟩
  have B18 := B17.trans (hb18.mono B17.size)
  have hx18 : Below w16.heap.size w16 w18 := hx17.trans (hb18.mono (by simp))
  have g018 := kept_cell hx18 lb8 g016
  have g218 := kept_cell hx18 lb8 g216
  have M18 := hid (M16.out.below hx18)
  clear M16 I016 J16 p016 p216 g016 g216 hb18 hx17
  go_wp2_with fail
  refine (HHR.out _ M18.out).mono ?_
  rintro e w19 ⟨rfl, hb19⟩
  have B19 := B18.trans (hb19.mono B18.size)
  go_wp2
  go_ret
  exact ⟨rfl, B19⟩
set_option maxRecDepth 100000 in
theorem contract (H : Type) (enc : TypeId × Value → H) (W : World) (base : Nat) (args : Array Value) (ds gs : List (DataW H)) (before : List MemPlace)
    (hval : ∀ (j : Nat) t v, Tryd.f3.params[j]? = some t → args[j]? = some v → Value.okWide Tryd.prog W .any base t v)
    (hW : DataW.Whole enc Tryd.prog Tryd.f3.params.toList Rows.fnExactPlainOfSpec.vars false W args.toList ds gs before) (hL : laidMetH Tryd.prog Rows.fnExactPlainOfRow.laid W) :
    Calls Tryd.prog 3 args W fun e W' => ∃ v, e = .returned v ∧ Rows.fnExactPlainOfSpec.post enc Tryd.prog Tryd.f3 false true false false W args v W' := by
  have hent := Crd.rul_of hL
  have hW' := hW
  obtain ⟨p, q, hA0, hV, rfl, hfz, hnd⟩ := hW
  have hA : DataW.TrodAll enc Tryd.prog W 0 (fun _ => true) true Tryd.f3.params.toList args.toList ds p := hA0
  rw [Tryd.params3] at hA hval
  obtain ⟨v0, vs0, d0, ds0, p0, q0, hargs, rfl, rfl, h0, r0⟩ := trodAll_cons hA
  obtain ⟨rfl, rfl, rfl⟩ := trodAll_nil r0
  obtain rfl : args = #[v0] := by cases args; simp_all
  obtain ⟨a0, len0, cap0, rfl⟩ := okWide_slice Tryd.underlying22 (hval 0 22 v0 rfl rfl)
  have k0 := h0
  have lt0 : ∀ x ∈ p0, x.block < W.heap.size := by obtain ⟨m, hm⟩ := k0; exact DataW.trod_lt m _ _ _ hm
  obtain ⟨l0, ga0, gb0, gc0⟩ : ∃ es, St.At W 0 (.slice a0 len0 cap0) es ∧ St.Ok es ∧ es.length ≤ maxLen := by
    obtain ⟨fuel, hf⟩ := h0
    exact St.open_all (by simpa [Value.cells] using hf)
  clear hA0
  refine (walk l0 _ W gc0 gb0 ga0 hent).mono fun e W' ⟨he, bel⟩ => ?_
  subst he
  have hV0 := hV
  obtain ⟨g, t, cs, fuel, dv, pv, rfl, hg, ht, hvar, hd, rfl⟩ := trodVars_one hV
  have hv' := Below.trodVars Crd.laidOut bel (ns := Rows.fnExactPlainOfSpec.vars) (by kernel_rfl) hV0
  exact ⟨_, rfl, _, _, _, [], _, _, hW', trodAll_mk1 (shut_bool Tryd.underlying4 _), (trodAll_cons_mk (Below.trod Crd.laidOut (by kernel_rfl) (of_decide_eq_true (by kernel_rfl)) k0 bel lt0) trodAll_mk0), hv', bel.frame _, fun h => by cases h⟩
theorem laid_met (os : Os) : laidMet Tryd.prog Rows.fnExactPlainOfRow.laid ((Crd.laidOver (World.holding Tryd.prog os ⟨#[], #[], []⟩)).forCall (fun _ _ => 0) ⟨#[], #[.slice Option.none 0 0], []⟩).memory :=
  laidMet_of_run' 8 (by kernel_rfl) (by kernel_rfl)
theorem reads (os : Os) {H : Type} (enc : TypeId × Value → H) : ∃ places, DataW.whole enc Tryd.prog ((Crd.laidOver (World.holding Tryd.prog os ⟨#[], #[], []⟩)).forCall (fun _ _ => 0) ⟨#[], #[.slice Option.none 0 0], []⟩).memory Tryd.f3.params.toList Rows.fnExactPlainOfSpec.vars false #[Value.slice Option.none 0 0].toList 8 = some ([.nil], [Rows.laid_loop_example_g00343_impl_stepRules], places) :=
  ⟨MemPlace.row ⟨0, 0, Option.none⟩ 56, by kernel_rfl⟩
set_option maxRecDepth 100000 in
theorem lifted (os : Os) (started : os.Started) (H : Type) (enc : TypeId × Value → H) (F : Stop.Interp) :
    ReturnsInHanded {} Tryd.checked os 3 .any ((OpenSpec.ofChange Rows.fnExactPlainOfSpec).preRow enc Tryd.prog Tryd.f3 Rows.fnExactPlainOfRow.domain false Rows.fnExactPlainOfRow.laid) (((OpenSpec.ofChange Rows.fnExactPlainOfSpec).at F).post enc Tryd.prog Tryd.f3 false true false false) := by
  obtain ⟨places, hx⟩ := reads os enc
  refine returnsInHanded_of_row (C := Tryd.checked) (s := OpenSpec.ofChange Rows.fnExactPlainOfSpec) Crd.own started (by kernel_rfl) Tryd.func3
    (witness_row_at (enc := enc) (C := Tryd.checked) false (Crd.laidOver (World.holding Tryd.prog os ⟨#[], #[], []⟩)) #[.slice Option.none 0 0] rfl (by kernel_rfl) (by kernel_rfl) (by kernel_rfl)
      (OpenSpec.preRow_of_cond 8 hx (by kernel_rfl) (fun k hk => by cases hk) (by kernel_rfl) (laid_met os))) ?_
  intro W base args ds gs before hval hW _ _ _ hL _ _
  exact contract H enc W base args ds gs before hval hW hL
theorem said : Rows.FnExactPlainOfSaid :=
  OpenClaim.holds_of_cond 3 Tryd.f3 rfl rfl rfl rfl rfl rfl rfl ⟨rfl, rfl, rfl, rfl, rfl⟩ rfl rfl rfl rfl rfl (by kernel_rfl) Tryd.func3 (by kernel_rfl)
    (of_decide_eq_true (by kernel_rfl)) (by unfold Func.isWrapper; first | (rw [if_pos (by decide +kernel)]; kernel_rfl) | (rw [if_neg (by decide +kernel)]; exact ⟨rfl, rfl⟩))
    (fun os started H enc _ F => by rw [OpenClaim.pre_eq_preRow]; exact lifted os started H enc F)
set_option maxRecDepth 100000 in
theorem plain (f : FuncId) (fn : Func) (hf : Tryd.pinned.checked.prog.funcNamed "loop.example/g00343/laws.FnExactPlainOf" = some f) (hfn : Tryd.pinned.checked.prog.funcs[f]? = some fn) :
    true = Tryd.pinned.checked.prog.looks [] ∧ ∀ (j : Nat) t, fn.params[j]? = some t → Tryd.pinned.checked.prog.wantsStandIn t = false := by
  obtain rfl : f = 3 := Option.some.inj ((show Tryd.prog.funcNamed "loop.example/g00343/laws.FnExactPlainOf" = some 3 by kernel_rfl).symm.trans hf) |>.symm
  obtain rfl : fn = Tryd.f3 := (Option.some.inj (Tryd.func3.symm.trans hfn)).symm
  refine ⟨by kernel_rfl, fun j t ht => ?_⟩
  rw [Tryd.params3] at ht
  obtain rfl : t = 22 := by simpa using Array.mem_of_getElem? ht
  exact (show Tryd.prog.wantsStandIn 22 = false by kernel_rfl)
end PlL
theorem fnExactPlainOf_card : Rows.FnExactPlainOfCardSaid :=
  Claim7.holds_tied_plain_at .later [] _ _ _ _ PlL.said (fun _ h => by cases h) (by kernel_rfl) (fun _ h => by cases h) fnExactPlainOf_row_tie rfl ⟨rfl, rfl⟩ (by kernel_rfl) rfl PlL.plain (by kernel_rfl)
#print axioms fnExactPlainOf_card
end Go.Proofs.YtedgobdnjemegaaDoor
