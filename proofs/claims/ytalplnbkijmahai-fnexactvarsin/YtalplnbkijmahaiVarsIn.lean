/- Whatever list of nodes is handed in, VarsIn answers as the specification's VarsIn does, in code and in list, its list owns its memory, behind another call too, and the list handed in reads afterwards as before. No condition. -/
import Derived.Test.YtalplnbkijmahaiRows
import Derived.ShutString
import Derived.ChangeOld
import Derived.Test.YtalplnbkijmahaiNdM
import Derived.Test.YtalplnbkijmahaiVaC
namespace Go.Proofs.Ytalplnbkijmahai
open Go.ChangeShapes Go.WideShapes Go.ChangeAt Go.RowKit
set_option linter.unusedVariables false
namespace VaL
open Ex
open Nd (NodeD)
open Ints (vals IntsAt marksTo)
theorem len_marks (n : Nat) : (marksTo n).length = n := Ints.marksTo_len n
theorem nd_own_below {w w' : World} {B C : Nat} {v : Value} {m : Nat} (h : Nd.Own w B C v m) (hb : Below w.heap.size w w') : Nd.Own w' B C v m := by
  obtain ⟨g, f, e, h1, h2, h3⟩ := h
  exact ⟨g, f, e, h1, h2, h3.of_block (hb.block _ h3.lt)⟩
theorem owns_grown {w w' : World} {base : Nat} {e : TypeId} {size n : Nat} {v : Value} {xs : List Value} {row : Option Nat} (h : w.ownsRow base e size v n xs) (hg : w.grownBy w' row) (hne : ∀ b, v.ownBlock = some b → row ≠ some b) : w'.ownsRow base e size v n xs := by
  refine ⟨h.1, ?_⟩
  rcases h.2 with hn | ⟨g, cap, cur, rfl, hbg, hgg, rest⟩
  · exact .inl hn
  · exact .inr ⟨g, cap, cur, rfl, hbg, by rw [hg.block g (Array.getElem?_eq_some_iff.1 hgg).1 (fun e => hne g rfl e.symm)]; exact hgg, rest⟩
set_option maxRecDepth 100000 in
set_option maxHeartbeats 8000000 in
theorem walk (l : List NodeD) (v1 : Value) (w0 : World) (hl : l.length ≤ maxLen) (h1 : Nd.At w0 0 v1 l) :
    Calls Try.prog 5 #[v1] w0 fun e w' => e = .returned (.bool true) ∧ Below w0.heap.size w0 w' := by
  have HZ1 := hid (Nd.szS l v1 1048576 0 w0 (by omega) (by omega) hl h1)
  obtain ⟨a1, c1, rfl⟩ := h1.slice
  have H1 := hid h1
  clear h1 hl
  go_enter Try.func5, Try.ntmps5
  go_wp2_with fail
  refine HZ1.out.mono ?_
  rintro e w ⟨⟨r1, rfl, r1a, r1b, r1c⟩, rfl⟩
  have B1 : Below w.heap.size w w := Below.refl _ _
  by_cases q1 : r1 < 0
  · go_wp2
    go_ret
    exact ⟨rfl, B1⟩
  have hln : l.length ≤ 1048576 := by have := r1c (by omega); omega
  have hkl := varList_len l
  clear r1c HZ1
  have HT1 := hid (fun w' (hb : Below w.heap.size w w') => Nd.toS 0 l _ w' hln (H1.out.below hb))
  have HT2 := hid (fun w' (hb : Below w.heap.size w w') => Nd.toS2 0 l _ w' hln (H1.out.below hb))
  have HIK := hid (fun u w' (hb : Below w.heap.size w w') (hu : Nd.At w' 0 u l) => implVarsIn 0 l u w' hln hu)
  clear H1
  go_wp2_with fail
  refine (HT1.out _ B1).mono ?_
  rintro e w2 ⟨u1, rfl, hu1, hb2⟩
  obtain ⟨x1, d1, rfl⟩ := hu1.slice
  have B2 := B1.trans (hb2.mono B1.size)
  have U1 := hid hu1
  clear hu1
  go_wp2_with fail
  refine (specVarsIn _ l _ _ hln U1.out).mono ?_
  rintro e w3 ⟨⟨s0, rfl, ho0⟩, hb3⟩
  have B3 := B2.trans (hb3.mono B2.size)
  have hs0 : ∀ b, s0.ownBlock = some b → b < w3.heap.size := fun b hb => (own_lt ho0 hb).2
  have I0 := hid (IntsAt.of ho0)
  obtain ⟨y0, z0, rfl⟩ := Ints.owns_slice ho0
  clear ho0 U1 hb2 hb3 B1 B2
  generalize hcc : eFault l = cc at *
  generalize hxx : varList l = xs at *
  have HCC := hid hcc
  have HXX := hid hxx
  clear hcc hxx
  have hxl : xs.length ≤ 1048576 := by omega
  go_wp2_with fail
  have B4 : Below w.heap.size w (w3.alloc (.cells #[.int .i64 cc, .slice y0 xs.length z0] 38)) := B3.alloc B3.size _
  have hx4 : Below w3.heap.size w3 (w3.alloc (.cells #[.int .i64 cc, .slice y0 xs.length z0] 38)) := (Below.refl _ w3).alloc (Nat.le_refl _) _
  refine (HT2.out _ B4).mono ?_
  rintro e w5 ⟨u2, rfl, hu2, hw2, hb5⟩
  obtain ⟨x2, d2, rfl⟩ := hu2.slice
  have B5 := B4.trans (hb5.mono B4.size)
  have I05 := hid ((I0.out.below hx4).below hb5)
  simp only [World.size_alloc] at hb5 hw2
  have U2 := hid (hu2.mono (Nat.zero_le _))
  have W2 := hid hw2
  have l5 : w3.heap.size + 1 ≤ w5.heap.size := by have := hb5.size; simpa using this
  have p0 := kept_cell hb5 (b := w3.heap.size) (o := 0) (v := .int .i64 cc) (by omega) (by go_simp)
  have p1 := kept_cell hb5 (b := w3.heap.size) (o := 1) (v := .slice y0 xs.length z0) (by omega) (by go_simp)
  clear hu2 hw2 I0 hx4 B4
  go_wp2_with fail
  refine (HIK.out _ _ B5 U2.out).mono ?_
  rintro e w6 ⟨⟨g0, rfl, ho6⟩, hb6⟩
  try rw [HCC.out]
  try rw [HXX.out] at ho6
  have B6 := B5.trans (hb6.mono B5.size)
  have l6 : w5.heap.size ≤ w6.heap.size := hb6.size
  have hg0 : ∀ b, g0.ownBlock = some b → w5.heap.size + 1 ≤ b ∧ b < w6.heap.size := fun b hb => own_lt ho6 hb
  have p06 := kept_cell hb6 (by omega) p0
  have p16 := kept_cell hb6 (by omega) p1
  obtain ⟨y1, z1, rfl⟩ := Ints.owns_slice ho6
  have O6 := hid ho6
  have I06 := hid (I05.out.below hb6)
  have U26 := hid (U2.out.below hb6)
  have W26 := hid (nd_own_below W2.out hb6)
  have hl3 : w3.heap.size < w6.heap.size := by omega
  clear ho6 I05 U2 W2 p0 p1 hb5 hb6
  go_wp2_with fail
  have hx7 : Below w6.heap.size w6 (w6.alloc (.cells #[.int .i64 cc, .slice y1 xs.length z1] 38)) := (Below.refl _ w6).alloc (Nat.le_refl _) _
  have B7 := B6.trans (hx7.mono B6.size)
  refine (Ints.eqR cc _ _ xs _ hxl ((IntsAt.of O6.out).below hx7) (I06.out.below hx7)).mono ?_
  rintro e w8 ⟨rfl, hb8⟩
  have B8 := B7.trans (hb8.mono B7.size)
  simp only [World.size_alloc] at hb8
  have l8 : w6.heap.size + 1 ≤ w8.heap.size := by have := hb8.size; simpa using this
  have hx8 : Below w6.heap.size w6 w8 := hx7.trans (hb8.mono (by omega))
  have p08 := kept_cell hx8 (by omega) p06
  have p18 := kept_cell hx8 (by omega) p16
  have g08 := kept_cell hb8 (b := w6.heap.size) (o := 0) (v := .int .i64 cc) (by omega) (by go_simp)
  have g18 := kept_cell hb8 (b := w6.heap.size) (o := 1) (v := .slice y1 xs.length z1) (by omega) (by go_simp)
  have O8 := hid (Ints.owns_below O6.out hx8)
  have I08 := hid (I06.out.below hx8)
  have U28 := hid (U26.out.below hx8)
  have W28 := hid (nd_own_below W26.out hx8)
  clear O6 I06 U26 W26 p06 p16 hb8 hx7 hx8 B7
  go_wp2_with fail
  refine (HT1.out _ B8).mono ?_
  rintro e w9 ⟨u3, rfl, hu3, hb9⟩
  obtain ⟨x3, d3, rfl⟩ := hu3.slice
  have B9 := B8.trans (hb9.mono B8.size)
  have U3 := hid hu3
  clear hu3
  go_wp2_with fail
  refine (Nd.eqS _ _ l _ _ _ hln (U28.out.below hb9) U3.out).mono ?_
  rintro e w10 ⟨rfl, hb10⟩
  have B10 := B9.trans (hb10.mono B9.size)
  have hx10 : Below w8.heap.size w8 w10 := hb9.trans (hb10.mono hb9.size)
  have l10 := hx10.size
  have p010 := kept_cell hx10 (by omega) p08
  have p110 := kept_cell hx10 (by omega) p18
  have g010 := kept_cell hx10 (by omega) g08
  have g110 := kept_cell hx10 (by omega) g18
  have O10 := hid (Ints.owns_below O8.out hx10)
  have I010 := hid (I08.out.below hx10)
  have W210 := hid (nd_own_below W28.out hx10)
  clear O8 I08 U28 W28 p08 p18 g08 g18 U3 hb9 hb10 hx10 B9
  go_wp2_with fail
  obtain ⟨gm, fm, em, hgm1, hgm2, hrow⟩ := W210.out
  cases em
  refine (NdM.markRow gm l.length (l.length * 4) _ fm _ hln (Nat.le_refl _) hrow).mono ?_
  rintro e w11 ⟨rfl, _, ham⟩
  have l11 := ham.size
  have B11 : Below w.heap.size w w11 := B10.grown ham B10.size (fun b e => by cases e; have := B3.size; omega)
  have hneM : ∀ b, b < w3.heap.size + 1 ∨ w5.heap.size ≤ b → (some gm : Option Nat) ≠ some b := fun b hb e => by cases e; omega
  have p011 := grown_cell ham p010 (hneM _ (by omega))
  have p111 := grown_cell ham p110 (hneM _ (by omega))
  have g011 := grown_cell ham g010 (hneM _ (by omega))
  have g111 := grown_cell ham g110 (hneM _ (by omega))
  have O11 := hid (owns_grown O10.out ham (fun b hb => hneM b (.inr (by have := (hg0 b hb).1; omega))))
  have I011 := hid (I010.out.kept ham.size (fun b hb hb2 => ham.block b hb2 (fun e => hneM b (.inl (by have := hs0 b hb; omega)) e.symm)))
  have q11 : ¬ (1 + 4 * (l.length : Int)) < 0 := by omega
  clear O10 I010 W210 p010 p110 g010 g110 ham
  go_wp2_with fail
  refine (Ints.eqR cc _ _ xs _ hxl (IntsAt.of O11.out) I011.out).mono ?_
  rintro e w12 ⟨rfl, hb12⟩
  have B12 := B11.trans (hb12.mono B11.size)
  have l12 := hb12.size
  have p012 := kept_cell hb12 (by omega) p011
  have p112 := kept_cell hb12 (by omega) p111
  have g012 := kept_cell hb12 (by omega) g011
  have g112 := kept_cell hb12 (by omega) g111
  have O12 := hid (Ints.owns_below O11.out hb12)
  have I012 := hid (I011.out.below hb12)
  clear O11 I011 p011 p111 g011 g111 hb12
  go_wp2_with fail
  refine (Ints.markR cc _ _ xs _ hxl (by omega) O12.out).mono ?_
  rintro e w13 ⟨rfl, ho13, hg13⟩
  have l13 := hg13.size
  have hne : ∀ b, b ≤ w5.heap.size ∨ w6.heap.size ≤ b → (Value.slice y1 xs.length z1).ownBlock ≠ some b := fun b hb e => by have := hg0 b e; omega
  have B13 : Below w.heap.size w w13 := B12.grown hg13 B12.size (fun b e => by have := hg0 b e; have := B5.size; omega)
  have p013 := grown_cell hg13 p012 (hne _ (by omega))
  have p113 := grown_cell hg13 p112 (hne _ (by omega))
  have g013 := grown_cell hg13 g012 (hne _ (by omega))
  have g113 := grown_cell hg13 g112 (hne _ (by omega))
  have M13 : Hid (IntsAt w13 (.slice y1 xs.length z1) (marksTo xs.length)) := hid (IntsAt.of (by rw [len_marks]; exact ho13))
  have I013 := hid (I012.out.kept hg13.size (fun b hb hb2 => hg13.block b hb2 (fun e => by have := hs0 b hb; exact hne b (by omega) e.symm)))
  clear O12 I012 p012 p112 g012 g112 hg13 ho13
  go_wp2_with fail
  refine (Ints.heldR cc _ xs.length _ hxl M13.out).mono ?_
  rintro e w14 ⟨rfl, hb14⟩
  have B14 := B13.trans (hb14.mono B13.size)
  have l14 := hb14.size
  have p014 := kept_cell hb14 (by omega) p013
  have p114 := kept_cell hb14 (by omega) p113
  have g014 := kept_cell hb14 (by omega) g013
  have g114 := kept_cell hb14 (by omega) g113
  have M14 := hid (M13.out.below hb14)
  have I014 := hid (I013.out.below hb14)
  have qq1 : ¬ (1 + (xs.length : Int)) < 0 := by omega
  have qq2 : ((1 + (xs.length : Int)) != (1 + (xs.length : Int))) = false := by simp
  clear M13 I013 p013 p113 g013 g113 hb14
  go_wp2_with fail
  refine (HT1.out _ B14).mono ?_
  rintro e w15 ⟨u4, rfl, hu4, hb15⟩
  obtain ⟨x4, d4, rfl⟩ := hu4.slice
  have B15 := B14.trans (hb15.mono B14.size)
  have U4 := hid (hu4.mono (Nat.zero_le _))
  clear hu4
  go_wp2_with fail
  refine (HIK.out _ _ B15 U4.out).mono ?_
  rintro e w16 ⟨⟨h0, rfl, ho16⟩, hb16⟩
  try rw [HCC.out]
  try rw [HXX.out] at ho16
  have B16 := B15.trans (hb16.mono B15.size)
  have hx16 : Below w14.heap.size w14 w16 := hb15.trans (hb16.mono hb15.size)
  have l16 := hx16.size
  have p016 := kept_cell hx16 (by omega) p014
  have p116 := kept_cell hx16 (by omega) p114
  have g016 := kept_cell hx16 (by omega) g014
  have g116 := kept_cell hx16 (by omega) g114
  have M16 := hid (M14.out.below hx16)
  have I016 := hid (I014.out.below hx16)
  have J16 := hid (IntsAt.of ho16)
  obtain ⟨y2, z2, rfl⟩ := Ints.owns_slice ho16
  have lb6 : w3.heap.size < w16.heap.size := by omega
  have lb8 : w6.heap.size < w16.heap.size := by omega
  clear M14 I014 p014 p114 g014 g114 ho16 hb15 hb16 hx16 U4
  go_wp2_with fail
  have hx17 : Below w16.heap.size w16 (w16.alloc (.cells #[.int .i64 cc, .slice y2 xs.length z2] 38)) := (Below.refl _ w16).alloc (Nat.le_refl _) _
  have B17 := B16.trans (hx17.mono B16.size)
  refine (Ints.eqR cc _ _ xs _ hxl (J16.out.below hx17) (I016.out.below hx17)).mono ?_
  rintro e w18 ⟨rfl, hb18⟩
  have B18 := B17.trans (hb18.mono B17.size)
  have hx18 : Below w16.heap.size w16 w18 := hx17.trans (hb18.mono (by simp))
  have g018 := kept_cell hx18 lb8 g016
  have g118 := kept_cell hx18 lb8 g116
  have M18 := hid (M16.out.below hx18)
  clear M16 I016 J16 p016 p116 g016 g116 hb18 hx17
  go_wp2_with fail
  refine (Ints.heldR cc _ xs.length _ hxl M18.out).mono ?_
  rintro e w19 ⟨rfl, hb19⟩
  have B19 := B18.trans (hb19.mono B18.size)
  go_wp2
  go_ret
  exact ⟨rfl, B19⟩
theorem own : ownKnob Try.prog.godebug = none := by kernel_rfl
theorem laidOut : laidOutB Try.prog = true := by kernel_rfl
set_option maxRecDepth 100000 in
theorem lifted (os : Os) (started : os.Started) (H : Type) (enc : TypeId × Value → H) :
    ReturnsInHanded {} Try.checked os 5 .any (Rows.fnExactVarsInSpec.pre6 enc Try.prog Try.f5 Rows.fnExactVarsInRow.domain false) (Rows.fnExactVarsInSpec.post enc Try.prog Try.f5 false true false false) := by
  refine returnsInHanded_of_change (C := Try.checked) own started (by kernel_rfl) Try.func5
    (ChangeSpec.witness6 (enc := enc) (C := Try.checked) false ⟨#[], #[.slice none 0 0], []⟩ 8 (by kernel_rfl) (by kernel_rfl) (by kernel_rfl) (by kernel_rfl)) ?_
  intro W base args ds gs before hval0 hW hcnd _
  have hval : ∀ (j : Nat) t v, Try.f5.params[j]? = some t → args[j]? = some v → Value.okWide Try.prog W .any base t v := hval0
  have hW' := hW
  obtain ⟨p, q, hA0, hV, rfl, hfz, hnd⟩ := hW
  have hA : DataW.TrodAll enc Try.prog W 0 (fun _ => true) true Try.f5.params.toList args.toList ds p := hA0
  rw [Try.params5] at hA hval
  obtain ⟨v0, vs0, d0, ds0, p0, q0, hargs, rfl, rfl, h0, r0⟩ := trodAll_cons hA
  obtain ⟨rfl, rfl, rfl⟩ := trodAll_nil r0
  obtain rfl : args = #[v0] := by cases args; simp_all
  obtain ⟨rfl, rfl⟩ := trodVars_none hV
  obtain ⟨a0, len0, cap0, rfl⟩ := okWide_slice Try.underlying22 (hval 0 22 v0 rfl rfl)
  have k0 := h0
  have lt0 : ∀ x ∈ p0, x.block < W.heap.size := by obtain ⟨m, hm⟩ := k0; exact DataW.trod_lt m _ _ _ hm
  obtain ⟨l0, ga0, gc0⟩ : ∃ es, Nd.At W 0 (.slice a0 len0 cap0) es ∧ es.length ≤ maxLen := by
    obtain ⟨fuel, hf⟩ := h0
    exact Nd.open_all (by simpa [Value.cells] using hf)
  clear hA0 hval0
  refine (walk l0 _ W gc0 ga0).mono fun e W' ⟨he, bel⟩ => ?_
  subst he
  exact ⟨_, rfl, _, _, _, [], _, [], hW', trodAll_mk1 (shut_bool Try.underlying4 _), (trodAll_cons_mk (Below.trod laidOut (by kernel_rfl) (of_decide_eq_true (by kernel_rfl)) k0 bel lt0) trodAll_mk0), rfl, bel.frame _, fun h => by cases h⟩
theorem over : Rows.fnExactVarsInRow.holds Try.pinned (OpenSpec.ofChange Rows.fnExactVarsInSpec) :=
  OpenClaim.holds_of_wide 5 Try.f5 rfl rfl rfl rfl rfl rfl rfl ⟨rfl, rfl, rfl, rfl, rfl⟩ rfl rfl rfl rfl rfl (by kernel_rfl) Try.func5 (by kernel_rfl)
    (of_decide_eq_true (by kernel_rfl)) (by unfold Func.isWrapper; first | (rw [if_pos (by decide +kernel)]; kernel_rfl) | (rw [if_neg (by decide +kernel)]; exact ⟨rfl, rfl⟩))
    (fun os started H enc _ => lifted os started H enc)
end VaL
theorem fnExactVarsIn_holds : Rows.FnExactVarsInSaid := VaL.over
#print axioms fnExactVarsIn_holds
end Go.Proofs.Ytalplnbkijmahai
