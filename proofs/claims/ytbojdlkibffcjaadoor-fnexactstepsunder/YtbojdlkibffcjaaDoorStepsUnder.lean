/- Whatever list of steps and number are handed in, StepsUnder answers as the specification's StepsUnder does, in code and in places, its list owns its memory, behind another call too, and the list handed in reads afterwards as before. Condition, tied to the program's own text: the table of rules holds what its initialiser lays. -/
import Derived.Test.YtbojdlkibffcjaaDoorCard2
import Derived.Test.YtbojdlkibffcjaaDoorStC
import Derived.Test.YtbojdlkibffcjaaDoorStM
import Derived.Test.YtbojdlkibffcjaaDoorPqC
namespace Go.Proofs.YtbojdlkibffcjaaDoor
open Go.ChangeShapes Go.WideShapes Go.ChangeAt Go.RowKit
open Go.ChangeMaps (open_string shut_string)
set_option linter.unusedVariables false
namespace UnL
open Ex (hid)
open Pf St
open Ints (vals IntsAt marksTo)
theorem amid_cell {w w' : World} {B C b o : Nat} {v : Value} (h : Amid w w' B C) (hb : b < B ∨ C ≤ b) (hc : w.cell? ⟨b, o, none⟩ = some v) : w'.cell? ⟨b, o, none⟩ = some v := by
  have hl : b < w.heap.size := by
    rcases Nat.lt_or_ge b w.heap.size with h1 | h1
    · exact h1
    · simp [World.cell?, Array.getElem?_eq_none h1] at hc
  simp only [World.cell?] at hc ⊢
  rw [h.block b hl hb]
  exact hc
theorem amid_own {w w' : World} {B C B0 n : Nat} {v : Value} {xs : List Value} (h : Amid w w' B C) (ho : w.ownsRow B0 2 1 v n xs) (hb : ∀ b, Pt.own v b → b < B ∨ C ≤ b) : w'.ownsRow B0 2 1 v n xs := by
  refine ⟨ho.1, ?_⟩
  rcases ho.2 with hn | ⟨g, cap, cur, rfl, hbg, hg, rest⟩
  · exact .inl hn
  · exact .inr ⟨g, cap, cur, rfl, hbg, by rw [h.block g (Array.getElem?_eq_some_iff.1 hg).1 (hb g rfl)]; exact hg, rest⟩
theorem len_marks (n : Nat) : (marksTo n).length = n := Ints.marksTo_len n
theorem lensC {es : List StepD} (h : Small 1048576 es) : ∀ j, j < es.length → lenC es j ≤ 1048576 := fun j hj => by
  rw [lenC_eq hj]
  have := (h.at hj).2.1
  omega
theorem lensE {es : List StepD} (h : Small 1048576 es) : ∀ j, j < es.length → lenE es j ≤ 1048576 := fun j hj => by
  rw [lenE_eq hj]
  have := (h.at hj).2.2
  omega
theorem grown_cell {w w' : World} {row : Option Nat} {b o : Nat} {v : Value} (h : w.grownBy w' row) (hc : w.cell? ⟨b, o, none⟩ = some v) (hr : row ≠ some b) : w'.cell? ⟨b, o, none⟩ = some v := by
  have hb : b < w.heap.size := Nd.lt_of_cell hc
  simp only [World.cell?] at hc ⊢
  rw [h.block b hb (fun e => hr e.symm)]
  exact hc
set_option maxRecDepth 100000 in
set_option maxHeartbeats 8000000 in
theorem walk (l : List StepD) (v1 : Value) (at' : Int) (w : World) (hl : l.length ≤ maxLen) (kl : Ok l) (h1 : At w 0 v1 l) (he : Rul w) :
    Calls Tryd.prog 3 #[v1, .int .i64 at'] w fun e w' => e = .returned (.bool true) ∧ Below w.heap.size w w' := by
  have hw := he.lt
  have HZ1 := hid (szS 0 l v1 1048576 w (by omega) (by omega) hl kl h1)
  obtain ⟨a1, c1, rfl⟩ := h1.slice
  have H1 := hid h1
  have HK := hid kl
  have HE := hid he
  clear h1 hl kl he
  go_enter Tryd.func3, Tryd.ntmps3
  go_wp2_with fail
  refine HZ1.out.mono ?_
  rintro e w1 ⟨⟨r1, rfl, r1a, r1b, r1c⟩, B1⟩
  by_cases q1 : r1 < 0
  · go_wp2
    go_ret
    exact ⟨rfl, B1⟩
  have S1 := hid (r1c (by omega))
  have hln := S1.out.1
  have hkl := underL_len (ss := l) (at' := at')
  clear r1c HZ1
  have HT1 := hid (fun w' (hb : Below w.heap.size w w') => toS 0 l _ w' S1.out (H1.out.below hb))
  have HT2 := hid (fun w' (hb : Below w.heap.size w w') => toS2 0 l _ w' S1.out (H1.out.below hb))
  have HIK := hid (fun u w' (hb : Below w.heap.size w w') (hu : At w' 0 u l) => implStepsUnder l u at' w' S1.out hu (HE.out.below hb hw))
  clear H1
  go_wp2_with fail
  refine (HT1.out _ B1).mono ?_
  rintro e w2 ⟨u1, rfl, hu1, hb2⟩
  obtain ⟨x1, d1, rfl⟩ := hu1.slice
  have B2 := B1.trans (hb2.mono B1.size)
  have U1 := hid hu1
  clear hu1
  go_wp2_with fail
  refine (specStepsUnder _ l _ at' _ S1.out U1.out).mono ?_
  rintro e w3 ⟨⟨s0, rfl, ho0⟩, hb3⟩
  have B3 := B2.trans (hb3.mono B2.size)
  have hs0 : ∀ b, Pt.own s0 b → b < w3.heap.size := fun b hb => (Pt.own_lt ho0 hb).2
  have I0 := hid (IntsAt.of ho0)
  obtain ⟨y0, z0, rfl⟩ := Ints.owns_slice ho0
  clear ho0 U1 hb2 hb3 B1 B2
  generalize hcc : underC l at' = cc at *
  generalize hxx : underL l at' = xs at *
  have HCC := hid hcc
  have HXX := hid hxx
  clear hcc hxx
  have hxl : xs.length ≤ 1048576 := by omega
  go_wp2_with fail
  have B4 : Below w.heap.size w (w3.alloc (.cells #[.int .i64 cc, .slice y0 xs.length z0] 26)) := B3.alloc B3.size _
  have hx4 : Below w3.heap.size w3 (w3.alloc (.cells #[.int .i64 cc, .slice y0 xs.length z0] 26)) := (Below.refl _ w3).alloc (Nat.le_refl _) _
  refine (HT2.out _ B4).mono ?_
  rintro e w5 ⟨u2, rfl, hu2, hw2, hb5⟩
  obtain ⟨x2, d2, rfl⟩ := hu2.slice
  have B5 := B4.trans (hb5.mono B4.size)
  have I05 := hid ((I0.out.below hx4).below hb5)
  simp only [World.size_alloc] at hb5 hw2
  have U2 := hid (hu2.mono (Nat.zero_le _))
  have W2 := hid hw2
  have l5 : w3.heap.size + 1 ≤ w5.heap.size := by have := hb5.size; simpa using this
  have p0 := kept_cell hb5 (b := w3.heap.size) (o := 0) (v := .int .i64 cc) (by omega) (by go_simp)
  have p1 := kept_cell hb5 (b := w3.heap.size) (o := 1) (v := .slice y0 xs.length z0) (by omega) (by go_simp)
  clear hu2 hw2 I0 hx4 B4
  go_wp2_with fail
  refine (HIK.out _ _ B5 U2.out).mono ?_
  rintro e w6 ⟨⟨g0, rfl, ho6⟩, hb6⟩
  try rw [HCC.out]
  try rw [HXX.out] at ho6
  have B6 := B5.trans (hb6.mono B5.size)
  have l6 : w5.heap.size ≤ w6.heap.size := hb6.size
  have hg0 : ∀ b, Pt.own g0 b → w5.heap.size + 1 ≤ b ∧ b < w6.heap.size := fun b hb => Pt.own_lt ho6 hb
  have p06 := kept_cell hb6 (by omega) p0
  have p16 := kept_cell hb6 (by omega) p1
  obtain ⟨y1, z1, rfl⟩ := Ints.owns_slice ho6
  have O6 := hid ho6
  have I06 := hid (I05.out.below hb6)
  have U26 := hid (U2.out.below hb6)
  have W26 := hid (W2.out.below hb6)
  have hl3 : w3.heap.size < w6.heap.size := by omega
  clear ho6 I05 U2 W2 p0 p1 hb5 hb6
  go_wp2_with fail
  have hx7 : Below w6.heap.size w6 (w6.alloc (.cells #[.int .i64 cc, .slice y1 xs.length z1] 26)) := (Below.refl _ w6).alloc (Nat.le_refl _) _
  have B7 := B6.trans (hx7.mono B6.size)
  refine (Ints.eqR cc _ _ xs _ hxl ((IntsAt.of O6.out).below hx7) (I06.out.below hx7)).mono ?_
  rintro e w8 ⟨rfl, hb8⟩
  have B8 := B7.trans (hb8.mono B7.size)
  simp only [World.size_alloc] at hb8
  have l8 : w6.heap.size + 1 ≤ w8.heap.size := by have := hb8.size; simpa using this
  have hx8 : Below w6.heap.size w6 w8 := hx7.trans (hb8.mono (by omega))
  have p08 := kept_cell hx8 (by omega) p06
  have p18 := kept_cell hx8 (by omega) p16
  have g08 := kept_cell hb8 (b := w6.heap.size) (o := 0) (v := .int .i64 cc) (by omega) (by go_simp)
  have g18 := kept_cell hb8 (b := w6.heap.size) (o := 1) (v := .slice y1 xs.length z1) (by omega) (by go_simp)
  have O8 := hid (Ints.owns_below O6.out hx8)
  have I08 := hid (I06.out.below hx8)
  have U28 := hid (U26.out.below hx8)
  have W28 := hid (W26.out.below hx8)
  clear O6 I06 U26 W26 p06 p16 hb8 hx7 hx8 B7
  go_wp2_with fail
  refine (HT1.out _ B8).mono ?_
  rintro e w9 ⟨u3, rfl, hu3, hb9⟩
  obtain ⟨x3, d3, rfl⟩ := hu3.slice
  have B9 := B8.trans (hb9.mono B8.size)
  have U3 := hid hu3
  clear hu3
  go_wp2_with fail
  refine (eqS _ _ l _ _ _ S1.out (U28.out.below hb9) U3.out).mono ?_
  rintro e w10 ⟨rfl, hb10⟩
  have B10 := B9.trans (hb10.mono B9.size)
  have hx10 : Below w8.heap.size w8 w10 := hb9.trans (hb10.mono hb9.size)
  have l10 := hx10.size
  have p010 := kept_cell hx10 (by omega) p08
  have p110 := kept_cell hx10 (by omega) p18
  have g010 := kept_cell hx10 (by omega) g08
  have g110 := kept_cell hx10 (by omega) g18
  have O10 := hid (Ints.owns_below O8.out hx10)
  have I010 := hid (I08.out.below hx10)
  have W210 := hid (W28.out.below hx10)
  clear O8 I08 U28 W28 p08 p18 g08 g18 U3 hb9 hb10 hx10 B9
  go_wp2_with fail
  refine (markSteps _ _ _ l.length (lenC l) (lenE l) _ (by omega) (lensC S1.out) (lensE S1.out) W210.out).mono ?_
  rintro e w11 ⟨⟨r11, rfl, hr11⟩, ham⟩
  have l11 := ham.size
  have B11 : Below w.heap.size w w11 := ⟨ham.os.trans B10.os, ham.tape.trans B10.tape, ham.output.trans B10.output, Nat.le_trans B10.size ham.size, fun b hb => (ham.block b (by have := B10.size; omega) (.inl (by have := B3.size; omega))).trans (B10.block b hb)⟩
  have p011 := amid_cell ham (.inl (by omega)) p010
  have p111 := amid_cell ham (.inl (by omega)) p110
  have g011 := amid_cell ham (.inr (by omega)) g010
  have g111 := amid_cell ham (.inr (by omega)) g110
  have O11 := hid (amid_own ham O10.out (fun b hb => .inr (by have := (hg0 b hb).1; omega)))
  have I011 := hid (I010.out.kept ham.size (fun b hb hb2 => ham.block b hb2 (.inl (by have := hs0 b hb; omega))))
  have q11 : ¬ r11 < 0 := by omega
  clear O10 I010 W210 p010 p110 g010 g110 ham
  go_wp2_with fail
  refine (Ints.eqR cc _ _ xs _ hxl (IntsAt.of O11.out) I011.out).mono ?_
  rintro e w12 ⟨rfl, hb12⟩
  have B12 := B11.trans (hb12.mono B11.size)
  have l12 := hb12.size
  have p012 := kept_cell hb12 (by omega) p011
  have p112 := kept_cell hb12 (by omega) p111
  have g012 := kept_cell hb12 (by omega) g011
  have g112 := kept_cell hb12 (by omega) g111
  have O12 := hid (Ints.owns_below O11.out hb12)
  have I012 := hid (I011.out.below hb12)
  clear O11 I011 p011 p111 g011 g111 hb12
  go_wp2_with fail
  refine (Ints.markR cc _ _ xs _ hxl (by omega) O12.out).mono ?_
  rintro e w13 ⟨rfl, ho13, hg13⟩
  have l13 := hg13.size
  have hne : ∀ b, b ≤ w5.heap.size ∨ w6.heap.size ≤ b → (Value.slice y1 xs.length z1).ownBlock ≠ some b := fun b hb e => by have := hg0 b e; omega
  have B13 : Below w.heap.size w w13 := B12.grown hg13 B12.size (fun b e => by have := hg0 b e; have := B5.size; omega)
  have p013 := grown_cell hg13 p012 (hne _ (by omega))
  have p113 := grown_cell hg13 p112 (hne _ (by omega))
  have g013 := grown_cell hg13 g012 (hne _ (by omega))
  have g113 := grown_cell hg13 g112 (hne _ (by omega))
  have M13 : Hid (IntsAt w13 (.slice y1 xs.length z1) (marksTo xs.length)) := hid (IntsAt.of (by rw [len_marks]; exact ho13))
  have I013 := hid (I012.out.kept hg13.size (fun b hb hb2 => hg13.block b hb2 (fun e => by have := hs0 b hb; exact hne b (by omega) e.symm)))
  clear O12 I012 p012 p112 g012 g112 hg13 ho13
  go_wp2_with fail
  refine (Ints.heldR cc _ xs.length _ hxl M13.out).mono ?_
  rintro e w14 ⟨rfl, hb14⟩
  have B14 := B13.trans (hb14.mono B13.size)
  have l14 := hb14.size
  have p014 := kept_cell hb14 (by omega) p013
  have p114 := kept_cell hb14 (by omega) p113
  have g014 := kept_cell hb14 (by omega) g013
  have g114 := kept_cell hb14 (by omega) g113
  have M14 := hid (M13.out.below hb14)
  have I014 := hid (I013.out.below hb14)
  have qq1 : ¬ (1 + (xs.length : Int)) < 0 := by omega
  have qq2 : ((1 + (xs.length : Int)) != (1 + (xs.length : Int))) = false := by simp
  clear M13 I013 p013 p113 g013 g113 hb14
  go_wp2_with fail
  refine (HT1.out _ B14).mono ?_
  rintro e w15 ⟨u4, rfl, hu4, hb15⟩
  obtain ⟨x4, d4, rfl⟩ := hu4.slice
  have B15 := B14.trans (hb15.mono B14.size)
  have U4 := hid (hu4.mono (Nat.zero_le _))
  clear hu4
  go_wp2_with fail
  refine (HIK.out _ _ B15 U4.out).mono ?_
  rintro e w16 ⟨⟨h0, rfl, ho16⟩, hb16⟩
  try rw [HCC.out]
  try rw [HXX.out] at ho16
  have B16 := B15.trans (hb16.mono B15.size)
  have hx16 : Below w14.heap.size w14 w16 := hb15.trans (hb16.mono hb15.size)
  have l16 := hx16.size
  have p016 := kept_cell hx16 (by omega) p014
  have p116 := kept_cell hx16 (by omega) p114
  have g016 := kept_cell hx16 (by omega) g014
  have g116 := kept_cell hx16 (by omega) g114
  have M16 := hid (M14.out.below hx16)
  have I016 := hid (I014.out.below hx16)
  have J16 := hid (IntsAt.of ho16)
  obtain ⟨y2, z2, rfl⟩ := Ints.owns_slice ho16
  have lb6 : w3.heap.size < w16.heap.size := by omega
  have lb8 : w6.heap.size < w16.heap.size := by omega
  clear M14 I014 p014 p114 g014 g114 ho16 hb15 hb16 hx16 U4
  go_wp2_with fail
  have hx17 : Below w16.heap.size w16 (w16.alloc (.cells #[.int .i64 cc, .slice y2 xs.length z2] 26)) := (Below.refl _ w16).alloc (Nat.le_refl _) _
  have B17 := B16.trans (hx17.mono B16.size)
  refine (Ints.eqR cc _ _ xs _ hxl (J16.out.below hx17) (I016.out.below hx17)).mono ?_
  rintro e w18 ⟨rfl, hb18⟩
  have B18 := B17.trans (hb18.mono B17.size)
  have hx18 : Below w16.heap.size w16 w18 := hx17.trans (hb18.mono (by simp))
  have g018 := kept_cell hx18 lb8 g016
  have g118 := kept_cell hx18 lb8 g116
  have M18 := hid (M16.out.below hx18)
  clear M16 I016 J16 p016 p116 g016 g116 hb18 hx17
  go_wp2_with fail
  refine (Ints.heldR cc _ xs.length _ hxl M18.out).mono ?_
  rintro e w19 ⟨rfl, hb19⟩
  have B19 := B18.trans (hb19.mono B18.size)
  go_wp2
  go_ret
  exact ⟨rfl, B19⟩
set_option maxRecDepth 100000 in
theorem contract (H : Type) (enc : TypeId × Value → H) (W : World) (base : Nat) (args : Array Value) (ds gs : List (DataW H)) (before : List MemPlace)
    (hval : ∀ (j : Nat) t v, Tryd.f3.params[j]? = some t → args[j]? = some v → Value.okWide Tryd.prog W .any base t v)
    (hW : DataW.Whole enc Tryd.prog Tryd.f3.params.toList Rows.fnExactStepsUnderSpec.vars false W args.toList ds gs before) (hL : laidMetH Tryd.prog Rows.fnExactStepsUnderRow.laid W) :
    Calls Tryd.prog 3 args W fun e W' => ∃ v, e = .returned v ∧ Rows.fnExactStepsUnderSpec.post enc Tryd.prog Tryd.f3 false true false false W args v W' := by
  have hent := Crd.rul_of hL
  have hW' := hW
  obtain ⟨p, q, hA0, hV, rfl, hfz, hnd⟩ := hW
  have hA : DataW.TrodAll enc Tryd.prog W 0 (fun _ => true) true Tryd.f3.params.toList args.toList ds p := hA0
  rw [Tryd.params3] at hA hval
  obtain ⟨v0, vs0, d0, ds0, p0, q0, hargs, rfl, rfl, h0, r0⟩ := trodAll_cons hA
  obtain ⟨v1, vs1, d1, ds1, p1, q1, rfl, rfl, rfl, h1, r1⟩ := trodAll_cons r0
  obtain ⟨rfl, rfl, rfl⟩ := trodAll_nil r1
  obtain rfl : args = #[v0, v1] := by cases args; simp_all
  obtain ⟨a0, len0, cap0, rfl⟩ := okWide_slice Tryd.underlying22 (hval 0 22 v0 rfl rfl)
  have k0 := h0
  have lt0 : ∀ x ∈ p0, x.block < W.heap.size := by obtain ⟨m, hm⟩ := k0; exact DataW.trod_lt m _ _ _ hm
  obtain ⟨l0, ga0, gb0, gc0⟩ : ∃ es, St.At W 0 (.slice a0 len0 cap0) es ∧ St.Ok es ∧ es.length ≤ maxLen := by
    obtain ⟨fuel, hf⟩ := h0
    exact St.open_all (by simpa [Value.cells] using hf)
  obtain ⟨x1, rfl, rfl, rfl, wx1⟩ := open_int Tryd.underlying2 (hval 1 2 v1 rfl rfl) h1
  clear hA0
  refine (walk l0 _ x1 W gc0 gb0 ga0 hent).mono fun e W' ⟨he, bel⟩ => ?_
  subst he
  have hV0 := hV
  obtain ⟨g, t, cs, fuel, dv, pv, rfl, hg, ht, hvar, hd, rfl⟩ := trodVars_one hV
  have hv' := Below.trodVars Crd.laidOut bel (ns := Rows.fnExactStepsUnderSpec.vars) (by kernel_rfl) hV0
  exact ⟨_, rfl, _, _, _, [], _, _, hW', trodAll_mk1 (shut_bool Tryd.underlying4 _), (trodAll_cons_mk (Below.trod Crd.laidOut (by kernel_rfl) (of_decide_eq_true (by kernel_rfl)) k0 bel lt0) (trodAll_cons_mk (shut_int Tryd.underlying2 wx1) trodAll_mk0)), hv', bel.frame _, fun h => by cases h⟩
theorem laid_met (os : Os) : laidMet Tryd.prog Rows.fnExactStepsUnderRow.laid ((Crd.laidOver (World.holding Tryd.prog os ⟨#[], #[], []⟩)).forCall (fun _ _ => 0) ⟨#[], #[.slice Option.none 0 0, .int .i64 0], []⟩).memory :=
  laidMet_of_run' 8 (by kernel_rfl) (by kernel_rfl)
theorem reads (os : Os) {H : Type} (enc : TypeId × Value → H) : ∃ places, DataW.whole enc Tryd.prog ((Crd.laidOver (World.holding Tryd.prog os ⟨#[], #[], []⟩)).forCall (fun _ _ => 0) ⟨#[], #[.slice Option.none 0 0, .int .i64 0], []⟩).memory Tryd.f3.params.toList Rows.fnExactStepsUnderSpec.vars false #[Value.slice Option.none 0 0, Value.int .i64 0].toList 8 = some ([.nil, .lit (.int .i64 0)], [Rows.laid_loop_example_g00343_impl_stepRules], places) :=
  ⟨MemPlace.row ⟨0, 0, Option.none⟩ 56, by kernel_rfl⟩
set_option maxRecDepth 100000 in
theorem lifted (os : Os) (started : os.Started) (H : Type) (enc : TypeId × Value → H) (F : Stop.Interp) :
    ReturnsInHanded {} Tryd.checked os 3 .any ((OpenSpec.ofChange Rows.fnExactStepsUnderSpec).preRow enc Tryd.prog Tryd.f3 Rows.fnExactStepsUnderRow.domain false Rows.fnExactStepsUnderRow.laid) (((OpenSpec.ofChange Rows.fnExactStepsUnderSpec).at F).post enc Tryd.prog Tryd.f3 false true false false) := by
  obtain ⟨places, hx⟩ := reads os enc
  refine returnsInHanded_of_row (C := Tryd.checked) (s := OpenSpec.ofChange Rows.fnExactStepsUnderSpec) Crd.own started (by kernel_rfl) Tryd.func3
    (witness_row_at (enc := enc) (C := Tryd.checked) false (Crd.laidOver (World.holding Tryd.prog os ⟨#[], #[], []⟩)) #[.slice Option.none 0 0, .int .i64 0] rfl (by kernel_rfl) (by kernel_rfl) (by kernel_rfl)
      (OpenSpec.preRow_of_cond 8 hx (by kernel_rfl) (fun k hk => by cases hk) (by kernel_rfl) (laid_met os))) ?_
  intro W base args ds gs before hval hW _ _ _ hL _ _
  exact contract H enc W base args ds gs before hval hW hL
theorem said : Rows.FnExactStepsUnderSaid :=
  OpenClaim.holds_of_cond 3 Tryd.f3 rfl rfl rfl rfl rfl rfl rfl ⟨rfl, rfl, rfl, rfl, rfl⟩ rfl rfl rfl rfl rfl (by kernel_rfl) Tryd.func3 (by kernel_rfl)
    (of_decide_eq_true (by kernel_rfl)) (by unfold Func.isWrapper; first | (rw [if_pos (by decide +kernel)]; kernel_rfl) | (rw [if_neg (by decide +kernel)]; exact ⟨rfl, rfl⟩))
    (fun os started H enc _ F => by rw [OpenClaim.pre_eq_preRow]; exact lifted os started H enc F)
set_option maxRecDepth 100000 in
theorem plain (f : FuncId) (fn : Func) (hf : Tryd.pinned.checked.prog.funcNamed "loop.example/g00343/laws.FnExactStepsUnder" = some f) (hfn : Tryd.pinned.checked.prog.funcs[f]? = some fn) :
    true = Tryd.pinned.checked.prog.looks [] ∧ ∀ (j : Nat) t, fn.params[j]? = some t → Tryd.pinned.checked.prog.wantsStandIn t = false := by
  obtain rfl : f = 3 := Option.some.inj ((show Tryd.prog.funcNamed "loop.example/g00343/laws.FnExactStepsUnder" = some 3 by kernel_rfl).symm.trans hf) |>.symm
  obtain rfl : fn = Tryd.f3 := (Option.some.inj (Tryd.func3.symm.trans hfn)).symm
  refine ⟨by kernel_rfl, fun j t ht => ?_⟩
  rw [Tryd.params3] at ht
  have hm : t = 22 ∨ t = 2 := by simpa using Array.mem_of_getElem? ht
  rcases hm with rfl | rfl
  · exact (show Tryd.prog.wantsStandIn 22 = false by kernel_rfl)
  · exact (show Tryd.prog.wantsStandIn 2 = false by kernel_rfl)
end UnL
theorem fnExactStepsUnder_card : Rows.FnExactStepsUnderCardSaid :=
  Claim7.holds_tied_plain_at .later [] _ _ _ _ UnL.said (fun _ h => by cases h) (by kernel_rfl) (fun _ h => by cases h) fnExactStepsUnder_row_tie rfl ⟨rfl, rfl⟩ (by kernel_rfl) rfl UnL.plain (by kernel_rfl)
#print axioms fnExactStepsUnder_card
end Go.Proofs.YtbojdlkibffcjaaDoor
