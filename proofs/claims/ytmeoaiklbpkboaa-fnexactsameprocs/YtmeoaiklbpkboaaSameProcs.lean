/- Whatever two lists of steps are handed in, SameProcs answers as the specification's SameProcs does, and both lists read afterwards as before. No condition. -/
import Derived.Test.YtmeoaiklbpkboaaRows
import Derived.ShutString
import Derived.ChangeOld
import Derived.Test.YtmeoaiklbpkboaaStB
import Derived.Test.YtmeoaiklbpkboaaStC
import Derived.Test.YtmeoaiklbpkboaaSpC
namespace Go.Proofs.Ytmeoaiklbpkboaa
open Go.ChangeShapes Go.WideShapes Go.ChangeAt Go.RowKit
set_option linter.unusedVariables false
namespace St
open Ex (hid)
theorem small_mono {n m : Int} {ss : List StepD} (h : Small n ss) (hm : n ≤ m) : Small m ss := ⟨Int.le_trans h.1 hm, fun e he => (h.2 e he).mono hm⟩
set_option maxRecDepth 100000 in
set_option maxHeartbeats 2000000 in
theorem walkSame (l m : List StepD) (v1 v2 : Value) (w : World) (hl : l.length ≤ maxLen) (hm : m.length ≤ maxLen) (kl : Ok l) (km : Ok m) (h1 : At w 0 v1 l) (h2 : At w 0 v2 m) :
    Calls Try.prog 3 #[v1, v2] w fun e w' => e = .returned (.bool true) ∧ Below w.heap.size w w' := by
  have HZ1 := hid (fun n w' (h0 : 0 ≤ n) (hn : n ≤ 1048576) (hb : Below w.heap.size w w') => szS 0 l v1 n w' h0 hn hl kl (h1.below hb))
  have HZ2 := hid (fun n w' (h0 : 0 ≤ n) (hn : n ≤ 1048576) (hb : Below w.heap.size w w') => szS 0 m v2 n w' h0 hn hm km (h2.below hb))
  obtain ⟨a1, c1, rfl⟩ := h1.slice
  obtain ⟨a2, c2, rfl⟩ := h2.slice
  have H1 := hid h1
  have H2 := hid h2
  clear h1 h2 hl hm kl km
  go_enter Try.func3, Try.ntmps3
  go_wp2_with fail
  refine (HZ1.out 1048576 _ (by omega) (by omega) (Below.refl _ _)).mono ?_
  rintro e w1 ⟨⟨r1, rfl, r1a, r1b, r1c⟩, hb1⟩
  by_cases q1 : r1 < 0
  · go_wp2
    go_ret
    exact ⟨rfl, hb1⟩
  have S1 := hid (r1c (by omega))
  clear r1c HZ1
  go_wp2_with fail
  refine (HZ2.out r1 _ (by omega) (by omega) hb1).mono ?_
  rintro e w2 ⟨⟨r2, rfl, r2a, r2b, r2c⟩, hb2⟩
  have B2 : Below w.heap.size w w2 := hb1.trans (hb2.mono hb1.size)
  by_cases q2 : r2 < 0
  · go_wp2
    go_ret
    exact ⟨rfl, B2⟩
  have S2 := hid (small_mono (r2c (by omega)) r1b)
  clear r2c HZ2 hb1 hb2
  have HT1 := hid (fun w' (hb : Below w.heap.size w w') => toS 0 l _ w' S1.out (H1.out.below hb))
  have HT2 := hid (fun w' (hb : Below w.heap.size w w') => toS 0 m _ w' S2.out (H2.out.below hb))
  clear H1 H2
  go_wp2_with fail
  refine (HT1.out _ B2).mono ?_
  rintro e w3 ⟨u1, rfl, hu1, hb3⟩
  obtain ⟨x1, d1, rfl⟩ := hu1.slice
  have B3 := B2.trans (hb3.mono B2.size)
  have U1 := hid hu1
  clear hu1
  go_wp2_with fail
  refine (HT2.out _ B3).mono ?_
  rintro e w4 ⟨u2, rfl, hu2, hb4⟩
  obtain ⟨x2, d2, rfl⟩ := hu2.slice
  have B4 := B3.trans (hb4.mono B3.size)
  have U2 := hid hu2
  clear hu2
  go_wp2_with fail
  refine (specSame _ _ l m _ _ _ S1.out S2.out (U1.out.below hb4) U2.out).mono ?_
  rintro e w5 ⟨rfl, hb5⟩
  have B5 := B4.trans (hb5.mono B4.size)
  clear U1 U2 hb3 hb4 hb5 B2 B3 B4
  go_wp2_with fail
  refine (HT1.out _ B5).mono ?_
  rintro e w6 ⟨u3, rfl, hu3, hb6⟩
  obtain ⟨x3, d3, rfl⟩ := hu3.slice
  have B6 := B5.trans (hb6.mono B5.size)
  have U3 := hid hu3
  clear hu3
  go_wp2_with fail
  refine (HT2.out _ B6).mono ?_
  rintro e w7 ⟨u4, rfl, hu4, hb7⟩
  obtain ⟨x4, d4, rfl⟩ := hu4.slice
  have B7 := B6.trans (hb7.mono B6.size)
  have U4 := hid hu4
  clear hu4
  have U37 := hid (U3.out.below hb7)
  go_wp2_with fail
  refine (implSame _ _ l m _ _ _ S1.out S2.out U37.out U4.out).mono ?_
  rintro e w8 ⟨rfl, hb8⟩
  have B8 := B7.trans (hb8.mono B7.size)
  have hs : (listEq stepEq l m != listEq stepEq l m) = false := by simp
  have U38 := hid (U37.out.below hb8)
  have U48 := hid (U4.out.below hb8)
  clear U3 U4 U37 hb6 hb7 hb8 B5 B6 B7
  go_wp2_with fail
  refine (HT1.out _ B8).mono ?_
  rintro e w9 ⟨u5, rfl, hu5, hb9⟩
  obtain ⟨x5, d5, rfl⟩ := hu5.slice
  have B9 := B8.trans (hb9.mono B8.size)
  have U5 := hid hu5
  clear hu5
  go_wp2_with fail
  refine (eqS _ _ l _ _ _ S1.out (U38.out.below hb9) U5.out).mono ?_
  rintro e w10 ⟨rfl, hb10⟩
  have B10 := B9.trans (hb10.mono B9.size)
  have U410 := hid ((U48.out.below hb9).below hb10)
  clear U38 U5 hb9 hb10 U48 B8 B9
  go_wp2_with fail
  refine (HT2.out _ B10).mono ?_
  rintro e w11 ⟨u6, rfl, hu6, hb11⟩
  obtain ⟨x6, d6, rfl⟩ := hu6.slice
  have B11 := B10.trans (hb11.mono B10.size)
  have U6 := hid hu6
  clear hu6
  go_wp2_with fail
  refine (eqS _ _ m _ _ _ S2.out (U410.out.below hb11) U6.out).mono ?_
  rintro e w12 ⟨rfl, hb12⟩
  have B12 := B11.trans (hb12.mono B11.size)
  go_wp2
  go_ret
  exact ⟨rfl, B12⟩
theorem own : ownKnob Try.prog.godebug = none := by kernel_rfl
theorem laidOut : laidOutB Try.prog = true := by kernel_rfl
set_option maxRecDepth 100000 in
theorem lifted (os : Os) (started : os.Started) (H : Type) (enc : TypeId × Value → H) :
    ReturnsInHanded {} Try.checked os 3 .any (Rows.fnExactSameProcsSpec.pre6 enc Try.prog Try.f3 Rows.fnExactSameProcsRow.domain false) (Rows.fnExactSameProcsSpec.post enc Try.prog Try.f3 false true false false) := by
  refine returnsInHanded_of_change (C := Try.checked) own started (by kernel_rfl) Try.func3
    (ChangeSpec.witness6 (enc := enc) (C := Try.checked) false ⟨#[], #[.slice none 0 0, .slice none 0 0], []⟩ 8 (by kernel_rfl) (by kernel_rfl) (by kernel_rfl) (by kernel_rfl)) ?_
  intro W base args ds gs before hval0 hW hcnd _
  have hval : ∀ (j : Nat) t v, Try.f3.params[j]? = some t → args[j]? = some v → Value.okWide Try.prog W .any base t v := hval0
  have hW' := hW
  obtain ⟨p, q, hA0, hV, rfl, hfz, hnd⟩ := hW
  have hA : DataW.TrodAll enc Try.prog W 0 (fun _ => true) true Try.f3.params.toList args.toList ds p := hA0
  rw [Try.params3] at hA hval
  obtain ⟨v0, vs0, d0, ds0, p0, q0, hargs, rfl, rfl, h0, r0⟩ := trodAll_cons hA
  obtain ⟨v1, vs1, d1, ds1, p1, q1, rfl, rfl, rfl, h1, r1⟩ := trodAll_cons r0
  obtain ⟨rfl, rfl, rfl⟩ := trodAll_nil r1
  obtain rfl : args = #[v0, v1] := by cases args; simp_all
  obtain ⟨rfl, rfl⟩ := trodVars_none hV
  obtain ⟨a0, len0, cap0, rfl⟩ := okWide_slice Try.underlying22 (hval 0 22 v0 rfl rfl)
  obtain ⟨a1, len1, cap1, rfl⟩ := okWide_slice Try.underlying22 (hval 1 22 v1 rfl rfl)
  have k0 := h0
  have k1 := h1
  have lt0 : ∀ x ∈ p0, x.block < W.heap.size := by obtain ⟨m, hm⟩ := k0; exact DataW.trod_lt m _ _ _ hm
  have lt1 : ∀ x ∈ p1, x.block < W.heap.size := by obtain ⟨m, hm⟩ := k1; exact DataW.trod_lt m _ _ _ hm
  obtain ⟨l, g1, g2, g3⟩ : ∃ es, At W 0 (.slice a0 len0 cap0) es ∧ Ok es ∧ es.length ≤ maxLen := by
    obtain ⟨fuel, hf⟩ := h0
    exact open_all (by simpa [Value.cells] using hf)
  obtain ⟨m, g4, g5, g6⟩ : ∃ es, At W 0 (.slice a1 len1 cap1) es ∧ Ok es ∧ es.length ≤ maxLen := by
    obtain ⟨fuel, hf⟩ := h1
    exact open_all (by simpa [Value.cells] using hf)
  clear hA0 hval0
  refine (walkSame l m _ _ W g3 g6 g2 g5 g1 g4).mono fun e W' ⟨he, bel⟩ => ?_
  subst he
  exact ⟨_, rfl, _, _, _, [], _, [], hW', trodAll_mk1 (shut_bool Try.underlying4 _), (trodAll_cons_mk (Below.trod laidOut (by kernel_rfl) (of_decide_eq_true (by kernel_rfl)) k0 bel lt0) (trodAll_cons_mk (Below.trod laidOut (by kernel_rfl) (of_decide_eq_true (by kernel_rfl)) k1 bel lt1) trodAll_mk0)), rfl, bel.frame _, fun h => by cases h⟩

theorem over : Rows.fnExactSameProcsRow.holds Try.pinned (OpenSpec.ofChange Rows.fnExactSameProcsSpec) :=
  OpenClaim.holds_of_wide 3 Try.f3 rfl rfl rfl rfl rfl rfl rfl ⟨rfl, rfl, rfl, rfl, rfl⟩ rfl rfl rfl rfl rfl (by kernel_rfl) Try.func3 (by kernel_rfl)
    (of_decide_eq_true (by kernel_rfl)) (by unfold Func.isWrapper; first | (rw [if_pos (by decide +kernel)]; kernel_rfl) | (rw [if_neg (by decide +kernel)]; exact ⟨rfl, rfl⟩))
    (fun os started H enc _ => lifted os started H enc)
end St
theorem fnExactSameProcs_holds : Rows.FnExactSameProcsSaid := St.over
#print axioms fnExactSameProcs_holds
end Go.Proofs.Ytmeoaiklbpkboaa
