/- Laid together: WfW, WfF. -/
import Derived.Test.YtccklgopcjilcaaGreatDoorJWF10
import Derived.Test.YtccklgopcjilcaaGreatDoorJWF47
import Derived.Deep.RegionHeld3
import Derived.Test.YtccklgopcjilcaaGreatDoorRows
import Derived.KernelRfl
import Derived.JoinedCond
import Derived.ProofKit
/- Whatever world is handed in, WorldFault answers as the specification's WorldFault does, and it reads afterwards as before. Condition, tied to the program's own text: the table of rules holds what its initialiser lays. -/
namespace Go.Proofs.YtccklgopcjilcaaGreatDoor
open Go.ChangeShapes Go.WideShapes Go.ChangeAt Go.RowKit Go.Deep
open Go.ChangeMaps (open_string shut_string)
set_option linter.unusedVariables false
set_option linter.unusedSimpArgs false
namespace WfL
open Ex (hid)
open Pf (Rul)
open Wo (WorldD worldC)
theorem blk_below {w w' : World} {b : Nat} {o : Obj} (h : w.heap[b]? = some o) (hb : Below w.heap.size w w') : w'.heap[b]? = some o := (hb.block b (Ch.blk_lt h)).trans h
set_option maxRecDepth 100000 in
set_option maxHeartbeats 16000000 in
theorem walk (g : WorldD) (v1 v2 v3 v4 v5 : Value) (w : World) (kg : Wo.Ok g) (h1 : Wo.At w 0 v1 v2 v3 v4 v5 g) (hr : Rul w) :
    Calls Tryz.prog 4 #[.agg #[v1, v2, .int .i64 g.desk.eng.now, v3, v4, v5]] w fun e w' => e = .returned (.bool true) ∧ Below w.heap.size w w' := by
  have hgl := hr.lt
  obtain ⟨⟨a1, c1, rfl⟩, ⟨a2, c2, rfl⟩, ⟨a3, c3, rfl⟩, ⟨a4, c4, rfl⟩, a5, c5, rfl⟩ := h1.slices
  obtain ⟨w0, e0⟩ : ∃ w0, w0 = w.alloc (.cells #[.slice a1 g.desk.eng.procs.length c1, .slice a2 g.desk.eng.insts.length c2, .int .i64 g.desk.eng.now, .slice a3 g.desk.claims.length c3, .slice a4 g.sure.length c4, .slice a5 g.loose.length c5] 53) := ⟨_, rfl⟩
  have hb0 : Below w.heap.size w w0 := by rw [e0]; exact (Below.refl _ w).alloc (Nat.le_refl _) _
  have hk0 : w0.heap[w.heap.size]? = some (.cells #[.slice a1 g.desk.eng.procs.length c1, .slice a2 g.desk.eng.insts.length c2, .int .i64 g.desk.eng.now, .slice a3 g.desk.claims.length c3, .slice a4 g.sure.length c4, .slice a5 g.loose.length c5] 53) := by rw [e0]; exact Ch.new_blk _ _
  have HZ1 := hid (Wo.sz 0 g _ _ _ _ _ 1048576 w0 (by omega) (by omega) kg (h1.below hb0))
  have H1 := hid h1
  have HR := hid hr
  have HB0 := hid hb0
  clear h1 kg hr hb0
  go_enter Tryz.func4, Tryz.ntmps4
  go_wp2_with fail
  rw [← e0]
  clear e0
  refine HZ1.out.mono ?_
  rintro e w1 ⟨⟨r1, rfl, r1a, r1b, r1c⟩, hb1⟩
  have HB1 := hid (HB0.out.trans (hb1.mono HB0.out.size))
  have HK1 : Hid (w1.heap[w.heap.size]? = some (.cells #[.slice a1 g.desk.eng.procs.length c1, .slice a2 g.desk.eng.insts.length c2, .int .i64 g.desk.eng.now, .slice a3 g.desk.claims.length c3, .slice a4 g.sure.length c4, .slice a5 g.loose.length c5] 53)) := hid (blk_below hk0 hb1)
  clear hb1 hk0 HZ1 HB0
  by_cases q1 : r1 < 0
  · go_wp2
    go_ret
    exact ⟨rfl, HB1.out⟩
  have S1 := hid (r1c (by omega))
  clear r1c
  have HC1 := hid (fun w' (hb : Below w.heap.size w w') => Wo.to2 0 g _ _ _ _ _ w' S1.out (H1.out.below hb))
  clear H1
  have d0 := Ch.blk_cell HK1.out 0
  have d1 := Ch.blk_cell HK1.out 1
  have d2 := Ch.blk_cell HK1.out 2
  have d3 := Ch.blk_cell HK1.out 3
  have d4 := Ch.blk_cell HK1.out 4
  have d5 := Ch.blk_cell HK1.out 5
  have lk := Ch.blk_lt HK1.out
  go_wp2_with fail
  refine (HC1.out _ HB1.out).mono ?_
  rintro e w2 ⟨p1, p2, p3, p4, p5, rfl, hu, hb2⟩
  obtain ⟨⟨s1, t1, rfl⟩, ⟨s2, t2, rfl⟩, ⟨s3, t3, rfl⟩, ⟨s4, t4, rfl⟩, s5, t5, rfl⟩ := hu.slices
  have HSP := hid (Wo.specFault _ g _ _ _ _ _ w2 S1.out hu)
  have HB2 := hid (HB1.out.trans (hb2.mono HB1.out.size))
  have HK2 : Hid (w2.heap[w.heap.size]? = some (.cells #[.slice a1 g.desk.eng.procs.length c1, .slice a2 g.desk.eng.insts.length c2, .int .i64 g.desk.eng.now, .slice a3 g.desk.claims.length c3, .slice a4 g.sure.length c4, .slice a5 g.loose.length c5] 53)) := hid (blk_below HK1.out hb2)
  clear hu hb2 HK1 HB1 d0 d1 d2 d3 d4 d5 lk
  go_wp2_with fail
  refine HSP.out.mono ?_
  rintro e w3 ⟨rfl, hb3⟩
  have HB3 := hid (HB2.out.trans (hb3.mono HB2.out.size))
  have HK3 : Hid (w3.heap[w.heap.size]? = some (.cells #[.slice a1 g.desk.eng.procs.length c1, .slice a2 g.desk.eng.insts.length c2, .int .i64 g.desk.eng.now, .slice a3 g.desk.claims.length c3, .slice a4 g.sure.length c4, .slice a5 g.loose.length c5] 53)) := hid (blk_below HK2.out hb3)
  clear hb3 HK2 HB2 HSP
  generalize hcc : worldC g = cc at *
  have HCC := hid hcc
  clear hcc
  have d0 := Ch.blk_cell HK3.out 0
  have d1 := Ch.blk_cell HK3.out 1
  have d2 := Ch.blk_cell HK3.out 2
  have d3 := Ch.blk_cell HK3.out 3
  have d4 := Ch.blk_cell HK3.out 4
  have d5 := Ch.blk_cell HK3.out 5
  have lk := Ch.blk_lt HK3.out
  go_wp2_with fail
  refine (HC1.out _ HB3.out).mono ?_
  rintro e w4 ⟨p1, p2, p3, p4, p5, rfl, hu, hb4⟩
  obtain ⟨⟨x1, y1, rfl⟩, ⟨x2, y2, rfl⟩, ⟨x3, y3, rfl⟩, ⟨x4, y4, rfl⟩, x5, y5, rfl⟩ := hu.slices
  obtain ⟨w5, e5⟩ : ∃ w5, w5 = w4.alloc (.cells #[.slice x1 g.desk.eng.procs.length y1, .slice x2 g.desk.eng.insts.length y2, .int .i64 g.desk.eng.now, .slice x3 g.desk.claims.length y3, .slice x4 g.sure.length y4, .slice x5 g.loose.length y5] 35) := ⟨_, rfl⟩
  have hb5 : Below w4.heap.size w4 w5 := by rw [e5]; exact (Below.refl _ w4).alloc (Nat.le_refl _) _
  have HX5 : Hid (w5.heap[w4.heap.size]? = some (.cells #[.slice x1 g.desk.eng.procs.length y1, .slice x2 g.desk.eng.insts.length y2, .int .i64 g.desk.eng.now, .slice x3 g.desk.claims.length y3, .slice x4 g.sure.length y4, .slice x5 g.loose.length y5] 35)) := hid (by rw [e5]; exact Ch.new_blk _ _)
  have HB4 := hid (HB3.out.trans (hb4.mono HB3.out.size))
  have HB5 := hid (HB4.out.trans (hb5.mono HB4.out.size))
  have HU5 := hid ((hu.mono (Nat.zero_le _)).below hb5)
  have HK5 : Hid (w5.heap[w.heap.size]? = some (.cells #[.slice a1 g.desk.eng.procs.length c1, .slice a2 g.desk.eng.insts.length c2, .int .i64 g.desk.eng.now, .slice a3 g.desk.claims.length c3, .slice a4 g.sure.length c4, .slice a5 g.loose.length c5] 53)) := hid (blk_below (blk_below HK3.out hb4) hb5)
  have HIM := hid (Wo.implFault g _ _ _ _ _ w5 S1.out HU5.out (HR.out.below HB5.out hgl))
  rw [HCC.out] at HIM
  clear hu hb4 hb5 d0 d1 d2 d3 d4 d5 lk HK3 HB3 HB4
  go_wp2_with fail
  rw [← e5]
  clear e5
  refine HIM.out.mono ?_
  rintro e w6 ⟨rfl, hb6⟩
  have hs : (cc != cc) = false := by simp
  have HB6 := hid (HB5.out.trans (hb6.mono HB5.out.size))
  have HX6 : Hid (w6.heap[w4.heap.size]? = some (.cells #[.slice x1 g.desk.eng.procs.length y1, .slice x2 g.desk.eng.insts.length y2, .int .i64 g.desk.eng.now, .slice x3 g.desk.claims.length y3, .slice x4 g.sure.length y4, .slice x5 g.loose.length y5] 35)) := hid (blk_below HX5.out hb6)
  have HK6 : Hid (w6.heap[w.heap.size]? = some (.cells #[.slice a1 g.desk.eng.procs.length c1, .slice a2 g.desk.eng.insts.length c2, .int .i64 g.desk.eng.now, .slice a3 g.desk.claims.length c3, .slice a4 g.sure.length c4, .slice a5 g.loose.length c5] 53)) := hid (blk_below HK5.out hb6)
  have HU6 := hid (HU5.out.below hb6)
  clear HIM hb6 HX5 HK5 HU5 HB5
  have hBd := HB6.out.drew
  have HDd : Hid (w6.drew.heap[w.heap.size]? = some (.cells #[.slice a1 g.desk.eng.procs.length c1, .slice a2 g.desk.eng.insts.length c2, .int .i64 g.desk.eng.now, .slice a3 g.desk.claims.length c3, .slice a4 g.sure.length c4, .slice a5 g.loose.length c5] 53) ∧ w6.drew.heap[w4.heap.size]? = some (.cells #[.slice x1 g.desk.eng.procs.length y1, .slice x2 g.desk.eng.insts.length y2, .int .i64 g.desk.eng.now, .slice x3 g.desk.claims.length y3, .slice x4 g.sure.length y4, .slice x5 g.loose.length y5] 35)) := hid ⟨HK6.out, HX6.out⟩
  have HUd := hid (HU6.out.below (Below.refl _ w6).drew)
  clear HX6 HK6 HU6 HB6
  go_wp2
  refine wp_region_held_drew (S := fun wx => wx.heap[w.heap.size]? = some (.cells #[.slice a1 g.desk.eng.procs.length c1, .slice a2 g.desk.eng.insts.length c2, .int .i64 g.desk.eng.now, .slice a3 g.desk.claims.length c3, .slice a4 g.sure.length c4, .slice a5 g.loose.length c5] 53) ∧ wx.heap[w4.heap.size]? = some (.cells #[.slice x1 g.desk.eng.procs.length y1, .slice x2 g.desk.eng.insts.length y2, .int .i64 g.desk.eng.now, .slice x3 g.desk.claims.length y3, .slice x4 g.sure.length y4, .slice x5 g.loose.length y5] 35)) (by kernel_rfl) HDd.out (fun hHeld => ?_)
  refine wpAnyH_take (i := 0) (v := .agg #[.slice x1 g.desk.eng.procs.length y1, .slice x2 g.desk.eng.insts.length y2, .int .i64 g.desk.eng.now, .slice x3 g.desk.claims.length y3, .slice x4 g.sure.length y4, .slice x5 g.loose.length y5]) rfl (by kernel_rfl) (by kernel_rfl) (by kernel_rfl) (fun _ _ _ h => h) (Or.inl ⟨by kernel_rfl, by intro w hSw; (try dsimp only at hSw); have m0 := Ch.blk_cell hSw.2 0; have m1 := Ch.blk_cell hSw.2 1; have m2 := Ch.blk_cell hSw.2 2; have m3 := Ch.blk_cell hSw.2 3; have m4 := Ch.blk_cell hSw.2 4; have m5 := Ch.blk_cell hSw.2 5; clear hSw; go_simp⟩) (by assumption) ?_
  simp only [Act.put, List.setIfInBounds_toArray, List.set_cons_zero, List.set_cons_succ]
  refine wpAnyH_take (i := 1) (v := .agg #[.slice a1 g.desk.eng.procs.length c1, .slice a2 g.desk.eng.insts.length c2, .int .i64 g.desk.eng.now, .slice a3 g.desk.claims.length c3, .slice a4 g.sure.length c4, .slice a5 g.loose.length c5]) rfl (by kernel_rfl) (by kernel_rfl) (by kernel_rfl) (fun _ _ _ h => h) (Or.inl ⟨by kernel_rfl, by intro w hSw; (try dsimp only at hSw); have m0 := Ch.blk_cell hSw.1 0; have m1 := Ch.blk_cell hSw.1 1; have m2 := Ch.blk_cell hSw.1 2; have m3 := Ch.blk_cell hSw.1 3; have m4 := Ch.blk_cell hSw.1 4; have m5 := Ch.blk_cell hSw.1 5; clear hSw; go_simp⟩) (by assumption) ?_
  simp only [Act.put, List.setIfInBounds_toArray, List.set_cons_zero, List.set_cons_succ]
  refine wpAnyH_ready (rs := [2]) (by kernel_rfl) (by simp) ?_
  refine AllReadyH.cons rfl (fun K hK => ?_) AllReadyH.nil
  go_simp
  go_at_call 20
  refine (HC1.out _ hBd).mono ?_
  rintro e wc ⟨p1, p2, p3, p4, p5, rfl, hu, hbc⟩
  obtain ⟨⟨z1, t1, rfl⟩, ⟨z2, t2, rfl⟩, ⟨z3, t3, rfl⟩, ⟨z4, t4, rfl⟩, z5, t5, rfl⟩ := hu.slices
  have HEC := hid (Wo.eq _ _ g _ _ _ _ _ _ _ _ _ _ wc S1.out (HUd.out.below hbc) hu)
  have hBc := hBd.trans (hbc.mono hBd.size)
  have HDc : Hid (wc.heap[w.heap.size]? = some (.cells #[.slice a1 g.desk.eng.procs.length c1, .slice a2 g.desk.eng.insts.length c2, .int .i64 g.desk.eng.now, .slice a3 g.desk.claims.length c3, .slice a4 g.sure.length c4, .slice a5 g.loose.length c5] 53) ∧ wc.heap[w4.heap.size]? = some (.cells #[.slice x1 g.desk.eng.procs.length y1, .slice x2 g.desk.eng.insts.length y2, .int .i64 g.desk.eng.now, .slice x3 g.desk.claims.length y3, .slice x4 g.sure.length y4, .slice x5 g.loose.length y5] 35)) := hid ⟨blk_below HDd.out.1 hbc, blk_below HDd.out.2 hbc⟩
  clear hu hbc
  go_wp2_with fail
  refine hK.out _ _ HDc.out (fun hHeld => ?_)
  clear hK K
  try simp only [Act.put, List.setIfInBounds_toArray, List.set_cons_zero, List.set_cons_succ]
  refine wpAnyH_ready (rs := [3]) (by kernel_rfl) (by simp) ?_
  refine AllReadyH.cons rfl (fun K hK => ?_) AllReadyH.nil
  go_simp
  go_at_call 22
  refine HEC.out.mono ?_
  rintro e we ⟨rfl, hbe⟩
  have hBe := hBc.trans (hbe.mono hBc.size)
  have HDe : Hid (we.heap[w.heap.size]? = some (.cells #[.slice a1 g.desk.eng.procs.length c1, .slice a2 g.desk.eng.insts.length c2, .int .i64 g.desk.eng.now, .slice a3 g.desk.claims.length c3, .slice a4 g.sure.length c4, .slice a5 g.loose.length c5] 53) ∧ we.heap[w4.heap.size]? = some (.cells #[.slice x1 g.desk.eng.procs.length y1, .slice x2 g.desk.eng.insts.length y2, .int .i64 g.desk.eng.now, .slice x3 g.desk.claims.length y3, .slice x4 g.sure.length y4, .slice x5 g.loose.length y5] 35)) := hid ⟨blk_below HDc.out.1 hbe, blk_below HDc.out.2 hbe⟩
  clear hbe
  go_wp2_with fail
  refine hK.out _ _ HDe.out (fun hHeld => ?_)
  clear hK K
  try simp only [Act.put, List.setIfInBounds_toArray, List.set_cons_zero, List.set_cons_succ]
  refine wpAnyH_take (i := 4) (v := .bool false) rfl (by kernel_rfl) (by kernel_rfl) (by kernel_rfl) (fun _ _ _ h => h) (Or.inl ⟨by kernel_rfl, by intro w hSw; (try dsimp only at hSw); go_simp⟩) (by assumption) ?_
  simp only [Act.put, List.setIfInBounds_toArray, List.set_cons_zero, List.set_cons_succ]
  refine wpAnyH_done (by kernel_rfl) ?_ _
  go_wp2
  go_ret
  exact ⟨rfl, hBe⟩
end WfL
end Go.Proofs.YtccklgopcjilcaaGreatDoor
/- What the row of the law says of the program, fact by fact. -/
namespace Go.Proofs.YtccklgopcjilcaaGreatDoor
open Go.ChangeShapes Go.WideShapes Go.ChangeAt Go.RowKit
namespace WfL
noncomputable abbrev jP : Program := Tryz.pinned.checked.prog
noncomputable abbrev jf : FuncId := 4
noncomputable abbrev jfn : Func := Tryz.f4
noncomputable abbrev js : ChangeSpec := Rows.fnExactWorldFaultSpec
noncomputable abbrev jc : OpenClaim := Rows.fnExactWorldFaultRow
theorem jt0 : (jc.wf (OpenSpec.ofChange js)) = true := by kernel_rfl
theorem jt1 : (laidOutB jP) = true := by kernel_rfl
theorem jt2 : (mapsRowed jP) = true := by kernel_rfl
theorem jt3 : (jfn.params.all (jP.readableRec ·)) = true := by kernel_rfl
theorem jt4 : (namedTie jP jc.named js.vars) = true := by kernel_rfl
theorem jt5 : ((jc.stops == [])) = true := by kernel_rfl
theorem jt6 : ((jP.stops == [])) = true := by kernel_rfl
theorem jt7 : ((jc.knobs == [])) = true := by kernel_rfl
theorem jt8 : ((jP.stopKnobs == [])) = true := by kernel_rfl
theorem jt9 : ((jc.inPlace == jP.inPlace jf)) = true := by kernel_rfl
theorem jt10 : ((jc.unfollowed == jP.unfollowed jf)) = true := by kernel_rfl
theorem jt11 : ((jc.recurses == jP.recurses jf)) = true := by kernel_rfl
theorem jt12 : ((jc.named == jP.varsNamed jf)) = true := by kernel_rfl
theorem jt13 : ((jc.maps == (jfn.params.toList ++ js.plain.varTypes jP).any (jP.mapsRec ·))) = true := by kernel_rfl
theorem jt14 : ((jc.ifaces == (jfn.params.toList ++ js.plain.varTypes jP).any (jP.ifacesRec ·))) = true := by kernel_rfl
theorem jt15 : ((jc.mapsOut == jP.mapsAmong jfn.resultTypes.toList)) = true := by kernel_rfl
theorem jt16 : ((jc.loops == (jfn.params.toList ++ js.plain.varTypes jP).any (jP.loopsFrom ·))) = true := by kernel_rfl
theorem jt17 : ((jc.wideKeys == (jfn.params.toList ++ js.plain.varTypes jP ++ jfn.resultTypes.toList).any (jP.wideKeysFrom ·))) = true := by kernel_rfl
theorem jt18 : (js.vars.all (jP.varReadable ·)) = true := by kernel_rfl
theorem jt19 : (jfn.resultTypes.all (fun t => jP.readableRec t && decide (t < jP.types.size))) = true := by kernel_rfl
theorem jt20 : ((jc.ifacesOut == jfn.resultTypes.toList.any (jP.ifacesRec ·))) = true := by kernel_rfl
theorem jt21 : ((jc.loopsOut == jfn.resultTypes.toList.any (jP.loopsFrom ·))) = true := by kernel_rfl
theorem jt22 : ((jc.plainKeys == jP.plainKeys)) = true := by kernel_rfl
theorem jt23 : (jc.shortTexts.isNone) = true := by kernel_rfl
theorem jt24 : (jP.stopsHeard) = true := by kernel_rfl
theorem jt25 : (jP.mayEnter) = true := by kernel_rfl
theorem jt26 : ((jc.lifted == jP.liftsFinal)) = true := by kernel_rfl
theorem jt27 : ((jP.make == some jc.make)) = true := by kernel_rfl
theorem jt28 : ((jc.kinds == (if jc.domain.isEmpty then [] else jfn.params.toList.map fun t => match jP.underlying t with | some (.int k) => some k | _ => none))) = true := by kernel_rfl
theorem jt29 : ((jc.pinned == jc.pinnedBy)) = true := by kernel_rfl
theorem jt30 : ((jc.veiled == (jfn.params.toList ++ js.plain.varTypes jP ++ jfn.resultTypes.toList).any (jP.veiledRec ·))) = true := by kernel_rfl
theorem jt31 : (jc.veiledFits jP jfn.params.toList (jfn.params.toList ++ js.plain.varTypes jP ++ jfn.resultTypes.toList)) = true := by kernel_rfl
set_option maxRecDepth 100000 in
theorem jall : joinedFacts jP jf jfn js jc = true := by
  simp only [joinedFacts, Bool.and_eq_true]
  exact ⟨⟨⟨⟨⟨⟨⟨⟨⟨⟨⟨⟨⟨⟨⟨⟨⟨⟨⟨⟨⟨⟨⟨⟨⟨⟨⟨⟨⟨⟨⟨jt0, jt1⟩, jt2⟩, jt3⟩, jt4⟩, jt5⟩, jt6⟩, jt7⟩, jt8⟩, jt9⟩, jt10⟩, jt11⟩, jt12⟩, jt13⟩, jt14⟩, jt15⟩, jt16⟩, jt17⟩, jt18⟩, jt19⟩, jt20⟩, jt21⟩, jt22⟩, jt23⟩, jt24⟩, jt25⟩, jt26⟩, jt27⟩, jt28⟩, jt29⟩, jt30⟩, jt31⟩
end WfL
end Go.Proofs.YtccklgopcjilcaaGreatDoor
