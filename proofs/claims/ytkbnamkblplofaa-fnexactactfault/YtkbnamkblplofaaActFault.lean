/- Whatever act is handed in, ActFault answers as the specification's ActFault does, and the act reads afterwards as before. No condition. -/
import Derived.Test.YtkbnamkblplofaaRows
import Derived.ShutString
import Derived.ChangeOld
import Derived.Deep.RegionHeld3
import Derived.Test.YtkbnamkblplofaaAcB
namespace Go.Proofs.Ytkbnamkblplofaa
open Go.ChangeShapes Go.WideShapes Go.ChangeAt Go.RowKit Go.Deep
set_option linter.unusedVariables false
set_option linter.unusedSimpArgs false
namespace Ac
open Ex (hid)
set_option maxRecDepth 100000 in
set_option maxHeartbeats 4000000 in
theorem walk (r : ActD) (v1 : Value) (w : World) (hk : r.vars.length ≤ maxLen) (h1 : Nu.At w 0 v1 r.vars) :
    Calls Try.prog 3 #[.agg #[.int .i64 r.kind, .int .i64 r.pos, v1]] w fun e w' => e = .returned (.bool true) ∧ Below w.heap.size w w' := by
  obtain ⟨a1, c1, rfl⟩ := h1.slice
  obtain ⟨w0, e0⟩ : ∃ w0, w0 = w.alloc (.cells #[.int .i64 r.kind, .int .i64 r.pos, .slice a1 r.vars.length c1] 24) := ⟨_, rfl⟩
  have hb0 : Below w.heap.size w w0 := by rw [e0]; exact (Below.refl _ w).alloc (Nat.le_refl _) _
  have hk0 : w0.heap[w.heap.size]? = some (.cells #[.int .i64 r.kind, .int .i64 r.pos, .slice a1 r.vars.length c1] 24) := by rw [e0]; exact Ch.new_blk _ _
  have HZ := hid (sz 0 r _ 1048576 w0 (by omega) (by omega) hk (h1.below hb0))
  have d0 := Ch.blk_cell hk0 0
  have d1 := Ch.blk_cell hk0 1
  have d2 := Ch.blk_cell hk0 2
  have H1 := hid h1
  have HB0 := hid hb0
  have HK0 := hid hk0
  clear h1 hb0 hk hk0
  go_enter Try.func3, Try.ntmps3
  go_wp2_with fail
  rw [← e0]
  clear e0
  refine HZ.out.mono ?_
  rintro e w1 ⟨⟨q, rfl, qa, qb, qc⟩, hb1⟩
  have HB1 := hid (HB0.out.trans (hb1.mono HB0.out.size))
  have HK1 : Hid (w1.heap[w.heap.size]? = some (.cells #[.int .i64 r.kind, .int .i64 r.pos, .slice a1 r.vars.length c1] 24)) := hid ((hb1.block _ (Ch.blk_lt HK0.out)).trans HK0.out)
  clear hb1 HZ HB0 HK0 d0 d1 d2
  by_cases q1 : q < 0
  · go_wp2
    go_ret
    exact ⟨rfl, HB1.out⟩
  have S := hid (qc (by omega))
  clear qc
  have HT := hid (fun w' (hb : Below w.heap.size w w') => to1 0 r _ w' S.out (H1.out.below hb))
  generalize hcc : actC r = cc at *
  have HCC := hid hcc
  clear hcc H1
  have d0 := Ch.blk_cell HK1.out 0
  have d1 := Ch.blk_cell HK1.out 1
  have d2 := Ch.blk_cell HK1.out 2
  go_wp2_with fail
  refine (HT.out _ HB1.out).mono ?_
  rintro e w2 ⟨u1, rfl, hu, hb2⟩
  obtain ⟨x0, y0, rfl⟩ := hu.slice
  have HS := hid (specAct _ r _ w2 S.out hu)
  have HB2 := hid (HB1.out.trans (hb2.mono HB1.out.size))
  have HK2 : Hid (w2.heap[w.heap.size]? = some (.cells #[.int .i64 r.kind, .int .i64 r.pos, .slice a1 r.vars.length c1] 24)) := hid ((hb2.block _ (Ch.blk_lt HK1.out)).trans HK1.out)
  clear hu hb2 HB1 HK1 d0 d1 d2
  go_wp2_with fail
  refine HS.out.mono ?_
  rintro e w3 ⟨rfl, hb3⟩
  rw [HCC.out]
  have HB3 := hid (HB2.out.trans (hb3.mono HB2.out.size))
  have HK3 : Hid (w3.heap[w.heap.size]? = some (.cells #[.int .i64 r.kind, .int .i64 r.pos, .slice a1 r.vars.length c1] 24)) := hid ((hb3.block _ (Ch.blk_lt HK2.out)).trans HK2.out)
  clear hb3 HB2 HK2 HS
  have d0 := Ch.blk_cell HK3.out 0
  have d1 := Ch.blk_cell HK3.out 1
  have d2 := Ch.blk_cell HK3.out 2
  go_wp2_with fail
  refine (HT.out _ HB3.out).mono ?_
  rintro e w4 ⟨u1, rfl, hu, hb4⟩
  obtain ⟨x1, y1, rfl⟩ := hu.slice
  obtain ⟨w5, e5⟩ : ∃ w5, w5 = w4.alloc (.cells #[.int .i64 r.kind, .int .i64 r.pos, .slice x1 r.vars.length y1] 27) := ⟨_, rfl⟩
  have hx5 : Below w4.heap.size w4 w5 := by rw [e5]; exact (Below.refl _ w4).alloc (Nat.le_refl _) _
  obtain ⟨X, eX⟩ : ∃ X, X = w4.heap.size := ⟨_, rfl⟩
  have X5 : Hid (w5.heap[X]? = some (.cells #[.int .i64 r.kind, .int .i64 r.pos, .slice x1 r.vars.length y1] 27)) := hid (by rw [e5, eX]; exact Ch.new_blk _ _)
  have LX := hid eX
  have hb5 : Below w3.heap.size w3 w5 := hb4.trans (hx5.mono hb4.size)
  have HB5 := hid (HB3.out.trans (hb5.mono HB3.out.size))
  have HK5 : Hid (w5.heap[w.heap.size]? = some (.cells #[.int .i64 r.kind, .int .i64 r.pos, .slice a1 r.vars.length c1] 24)) := hid ((hb5.block _ (Ch.blk_lt HK3.out)).trans HK3.out)
  have U5 := hid (hu.below hx5)
  have HI := hid (implAct _ r _ w5 S.out U5.out)
  have l5 : w4.heap.size < w5.heap.size := by rw [← eX]; exact Ch.blk_lt X5.out
  clear hu hb4 hx5 hb5 HB3 HK3 d0 d1 d2 eX
  go_wp2_with fail
  rw [← e5, ← LX.out]
  clear e5
  refine HI.out.mono ?_
  rintro e w6 ⟨rfl, hb6⟩
  rw [HCC.out]
  have hs : (cc != cc) = false := by simp
  have HB6 := hid (HB5.out.trans (hb6.mono HB5.out.size))
  have HK6 : Hid (w6.heap[w.heap.size]? = some (.cells #[.int .i64 r.kind, .int .i64 r.pos, .slice a1 r.vars.length c1] 24)) := hid ((hb6.block _ (Ch.blk_lt HK5.out)).trans HK5.out)
  have X6 : Hid (w6.heap[X]? = some (.cells #[.int .i64 r.kind, .int .i64 r.pos, .slice x1 r.vars.length y1] 27)) := hid ((hb6.block _ (Ch.blk_lt X5.out)).trans X5.out)
  have U6 := hid ((U5.out.below hb6).below (Below.refl _ w6).drew)
  clear hb6 HB5 HK5 X5 U5 HI
  have hBd := HB6.out.drew
  have HDd : Hid (w6.drew.heap[w.heap.size]? = some (.cells #[.int .i64 r.kind, .int .i64 r.pos, .slice a1 r.vars.length c1] 24) ∧ w6.drew.heap[X]? = some (.cells #[.int .i64 r.kind, .int .i64 r.pos, .slice x1 r.vars.length y1] 27)) := hid ⟨HK6.out, X6.out⟩
  go_wp2
  refine wp_region_held_drew (S := fun wx => wx.heap[w.heap.size]? = some (.cells #[.int .i64 r.kind, .int .i64 r.pos, .slice a1 r.vars.length c1] 24) ∧ wx.heap[X]? = some (.cells #[.int .i64 r.kind, .int .i64 r.pos, .slice x1 r.vars.length y1] 27)) (by kernel_rfl) HDd.out (fun hHeld => ?_)
  refine wpAnyH_take (i := 0) (v := .agg #[.int .i64 r.kind, .int .i64 r.pos, .slice x1 r.vars.length y1]) rfl (by kernel_rfl) (by kernel_rfl) (by kernel_rfl) (fun _ _ _ h => h) (Or.inl ⟨by kernel_rfl, by intro w hSw; (try dsimp only at hSw); have m0 := Ch.blk_cell hSw.2 0; have m1 := Ch.blk_cell hSw.2 1; have m2 := Ch.blk_cell hSw.2 2; clear hSw; go_simp⟩) (by assumption) ?_
  simp only [Act.put, List.setIfInBounds_toArray, List.set_cons_zero, List.set_cons_succ]
  refine wpAnyH_take (i := 1) (v := .agg #[.int .i64 r.kind, .int .i64 r.pos, .slice a1 r.vars.length c1]) rfl (by kernel_rfl) (by kernel_rfl) (by kernel_rfl) (fun _ _ _ h => h) (Or.inl ⟨by kernel_rfl, by intro w hSw; (try dsimp only at hSw); have m0 := Ch.blk_cell hSw.1 0; have m1 := Ch.blk_cell hSw.1 1; have m2 := Ch.blk_cell hSw.1 2; clear hSw; go_simp⟩) (by assumption) ?_
  simp only [Act.put, List.setIfInBounds_toArray, List.set_cons_zero, List.set_cons_succ]
  refine wpAnyH_ready (rs := [2]) (by kernel_rfl) (by simp) ?_
  refine AllReadyH.cons rfl (fun K hK => ?_) AllReadyH.nil
  go_simp
  go_at_call 6
  refine (HT.out _ hBd).mono ?_
  rintro e we ⟨p1, rfl, hu5, hbe⟩
  obtain ⟨z1, t1, rfl⟩ := hu5.slice
  have HEC := hid (eq _ _ r _ _ we S.out (U6.out.below hbe) hu5)
  have HBe := hid (hBd.trans (hbe.mono hBd.size))
  have HDe : Hid (we.heap[w.heap.size]? = some (.cells #[.int .i64 r.kind, .int .i64 r.pos, .slice a1 r.vars.length c1] 24) ∧ we.heap[X]? = some (.cells #[.int .i64 r.kind, .int .i64 r.pos, .slice x1 r.vars.length y1] 27)) := hid ⟨(hbe.block _ (Ch.blk_lt HDd.out.1)).trans HDd.out.1, (hbe.block _ (Ch.blk_lt HDd.out.2)).trans HDd.out.2⟩
  clear hu5 hbe
  go_wp2_with fail
  refine hK.out _ _ HDe.out (fun hHeld => ?_)
  clear hK K
  try simp only [Act.put, List.setIfInBounds_toArray, List.set_cons_zero, List.set_cons_succ]
  refine wpAnyH_ready (rs := [3]) (by kernel_rfl) (by simp) ?_
  refine AllReadyH.cons rfl (fun K hK => ?_) AllReadyH.nil
  go_simp
  go_at_call 8
  refine HEC.out.mono ?_
  rintro e wf ⟨rfl, hbf⟩
  have HBf := hid (HBe.out.trans (hbf.mono HBe.out.size))
  have HDf : Hid (wf.heap[w.heap.size]? = some (.cells #[.int .i64 r.kind, .int .i64 r.pos, .slice a1 r.vars.length c1] 24) ∧ wf.heap[X]? = some (.cells #[.int .i64 r.kind, .int .i64 r.pos, .slice x1 r.vars.length y1] 27)) := hid ⟨(hbf.block _ (Ch.blk_lt HDe.out.1)).trans HDe.out.1, (hbf.block _ (Ch.blk_lt HDe.out.2)).trans HDe.out.2⟩
  clear hbf
  go_wp2_with fail
  refine hK.out _ _ HDf.out (fun hHeld => ?_)
  clear hK K
  try simp only [Act.put, List.setIfInBounds_toArray, List.set_cons_zero, List.set_cons_succ]
  refine wpAnyH_take (i := 4) (v := .bool false) rfl (by kernel_rfl) (by kernel_rfl) (by kernel_rfl) (fun _ _ _ h => h) (Or.inl ⟨by kernel_rfl, by intro w hSw; (try dsimp only at hSw); go_simp⟩) (by assumption) ?_
  simp only [Act.put, List.setIfInBounds_toArray, List.set_cons_zero, List.set_cons_succ]
  refine wpAnyH_done (by kernel_rfl) ?_ _
  clear hHeld HDd HDe HDf HEC
  go_wp2
  go_ret
  exact ⟨rfl, HBf.out⟩
theorem own : ownKnob Try.prog.godebug = none := by kernel_rfl
theorem laidOut : laidOutB Try.prog = true := by kernel_rfl
set_option maxRecDepth 100000 in
theorem lifted (os : Os) (started : os.Started) (H : Type) (enc : TypeId × Value → H) :
    ReturnsInHanded {} Try.checked os 3 .any (Rows.fnExactActFaultSpec.pre6 enc Try.prog Try.f3 Rows.fnExactActFaultRow.domain false) (Rows.fnExactActFaultSpec.post enc Try.prog Try.f3 false true false false) := by
  refine returnsInHanded_of_change (C := Try.checked) own started (by kernel_rfl) Try.func3
    (ChangeSpec.witness6 (enc := enc) (C := Try.checked) false ⟨#[], #[.agg #[.int .i64 0, .int .i64 0, .slice none 0 0]], []⟩ 8 (by kernel_rfl) (by kernel_rfl) (by kernel_rfl) (by kernel_rfl)) ?_
  intro W base args ds gs before hval0 hW hcnd _
  have hval : ∀ (j : Nat) t v, Try.f3.params[j]? = some t → args[j]? = some v → Value.okWide Try.prog W .any base t v := hval0
  have hW' := hW
  obtain ⟨p, q, hA0, hV, rfl, hfz, hnd⟩ := hW
  have hA : DataW.TrodAll enc Try.prog W 0 (fun _ => true) true Try.f3.params.toList args.toList ds p := hA0
  rw [Try.params3] at hA hval
  obtain ⟨v0, vs0, d0, ds0, p0, q0, hargs, rfl, rfl, h0, r0⟩ := trodAll_cons hA
  obtain ⟨rfl, rfl, rfl⟩ := trodAll_nil r0
  obtain rfl : args = #[v0] := by cases args; simp_all
  obtain ⟨rfl, rfl⟩ := trodVars_none hV
  obtain ⟨cs0, rfl, _⟩ := okWide_struct Try.underlying24 (hval 0 24 v0 rfl rfl)
  have k0 := h0
  have lt0 : ∀ x ∈ p0, x.block < W.heap.size := by obtain ⟨m, hm⟩ := k0; exact DataW.trod_lt m _ _ _ hm
  obtain ⟨g0, n0, hc0, ga0, gk0⟩ : ∃ (g : ActD) (v1 : Value), cs0.toList = [.int .i64 g.kind, .int .i64 g.pos, v1] ∧ Nu.At W 0 v1 g.vars ∧ g.vars.length ≤ maxLen := by
    obtain ⟨fuel, hf⟩ := h0
    exact Ac.open_all (by simpa [Value.cells] using hf)
  obtain rfl : cs0 = #[.int .i64 g0.kind, .int .i64 g0.pos, n0] := by cases cs0; simp_all
  clear hA0 hval0
  refine (walk g0 _ W gk0 ga0).mono fun e W' ⟨he, bel⟩ => ?_
  subst he
  exact ⟨_, rfl, _, _, _, [], _, [], hW', trodAll_mk1 (shut_bool Try.underlying4 _), (trodAll_cons_mk (Below.trod laidOut (by kernel_rfl) (of_decide_eq_true (by kernel_rfl)) k0 bel lt0) trodAll_mk0), rfl, bel.frame _, fun h => by cases h⟩
theorem over : Rows.fnExactActFaultRow.holds Try.pinned (OpenSpec.ofChange Rows.fnExactActFaultSpec) :=
  OpenClaim.holds_of_wide 3 Try.f3 rfl rfl rfl rfl rfl rfl rfl ⟨rfl, rfl, rfl, rfl, rfl⟩ rfl rfl rfl rfl rfl (by kernel_rfl) Try.func3 (by kernel_rfl)
    (of_decide_eq_true (by kernel_rfl)) (by unfold Func.isWrapper; first | (rw [if_pos (by decide +kernel)]; kernel_rfl) | (rw [if_neg (by decide +kernel)]; exact ⟨rfl, rfl⟩))
    (fun os started H enc _ => lifted os started H enc)
end Ac
theorem fnExactActFault_holds : Rows.FnExactActFaultSaid := Ac.over
#print axioms fnExactActFault_holds
end Go.Proofs.Ytkbnamkblplofaa
