/- Whatever list of steps and chart are handed in, ChartFault answers as the specification's ChartFault does, and both read afterwards as before. Condition, tied to the program's own text: the table of rules holds what its initialiser lays. -/
import Derived.Test.YtdmekehlkfbigaaDoorJChartFault6
import Derived.Test.YtdmekehlkfbigaaDoorJChartFault20
import Derived.Test.YtdmekehlkfbigaaDoorJChartFault21
import Derived.Test.YtdmekehlkfbigaaDoorJChartFault41
import Derived.Deep.RegionHeld3
namespace Go.Proofs.YtdmekehlkfbigaaDoor
open Go.ChangeShapes Go.WideShapes Go.ChangeAt Go.RowKit Go.Deep
open Go.ChangeMaps (open_string shut_string)
set_option linter.unusedVariables false
set_option linter.unusedSimpArgs false
namespace KfL
open Ex (hid)
open Pf St
open Ch (RunD)
open Kc (chartC implChartFault)
open Ks (specChart)
theorem blk_below {w w' : World} {b : Nat} {o : Obj} (h : w.heap[b]? = some o) (hb : Below w.heap.size w w') : w'.heap[b]? = some o := (hb.block b (Ch.blk_lt h)).trans h
set_option maxRecDepth 100000 in
set_option maxHeartbeats 16000000 in
theorem walk (l : List StepD) (v : Value) (r : RunD) (v1 v2 v3 : Value) (w : World) (hl : l.length ≤ maxLen) (kl : St.Ok l) (kr : Ch.Ok r) (h1 : St.At w 0 v l) (h2 : Ch.At w 0 v1 v2 v3 r) (hr : Rul w) :
    Calls Tryd.prog 3 #[v, .agg #[.int .i64 r.status, .int .i64 r.now, v1, v2, v3]] w fun e w' => e = .returned (.bool true) ∧ Below w.heap.size w w' := by
  have hgl := hr.lt
  obtain ⟨b0, k0, rfl⟩ := h1.slice
  obtain ⟨a1, c1, rfl⟩ := h2.vars.slice
  obtain ⟨a2, c2, rfl⟩ := h2.marks.slice
  obtain ⟨a3, c3, rfl⟩ := h2.dues.slice
  obtain ⟨w0, e0⟩ : ∃ w0, w0 = w.alloc (.cells #[.int .i64 r.status, .int .i64 r.now, .slice a1 r.vars.length c1, .slice a2 r.marks.length c2, .slice a3 r.dues.length c3] 25) := ⟨_, rfl⟩
  have hb0 : Below w.heap.size w w0 := by rw [e0]; exact (Below.refl _ w).alloc (Nat.le_refl _) _
  have hk0 : w0.heap[w.heap.size]? = some (.cells #[.int .i64 r.status, .int .i64 r.now, .slice a1 r.vars.length c1, .slice a2 r.marks.length c2, .slice a3 r.dues.length c3] 25) := by rw [e0]; exact Ch.new_blk _ _
  have HZ1 := hid (szS 0 l _ 1048576 w0 (by omega) (by omega) hl kl (h1.below hb0))
  have H1 := hid h1
  have H2 := hid h2
  have HR := hid hr
  have HKR := hid kr
  have HB0 := hid hb0
  clear h1 h2 hl kl kr hr hb0
  go_enter Tryd.func3, Tryd.ntmps3
  go_wp2_with fail
  rw [← e0]
  clear e0
  refine HZ1.out.mono ?_
  rintro e w1 ⟨⟨r1, rfl, r1a, r1b, r1c⟩, hb1⟩
  have HB1 := hid (HB0.out.trans (hb1.mono HB0.out.size))
  have hk1 : w1.heap[w.heap.size]? = some (.cells #[.int .i64 r.status, .int .i64 r.now, .slice a1 r.vars.length c1, .slice a2 r.marks.length c2, .slice a3 r.dues.length c3] 25) := blk_below hk0 hb1
  clear hb1 hk0 HZ1 HB0
  by_cases q1 : r1 < 0
  · go_wp2
    go_ret
    exact ⟨rfl, HB1.out⟩
  have S1 := hid (r1c (by omega))
  clear r1c
  have d0 := Ch.blk_cell hk1 0
  have d1 := Ch.blk_cell hk1 1
  have d2 := Ch.blk_cell hk1 2
  have d3 := Ch.blk_cell hk1 3
  have d4 := Ch.blk_cell hk1 4
  have HZ2 := hid (Ch.sz 0 r _ _ _ r1 w1 (by omega) (by omega) HKR.out (H2.out.below HB1.out))
  have HK1 := hid hk1
  clear hk1
  go_wp2_with fail
  refine HZ2.out.mono ?_
  rintro e w2 ⟨⟨r2, rfl, r2a, r2b, r2c⟩, hb2⟩
  have HB2 := hid (HB1.out.trans (hb2.mono HB1.out.size))
  have HK2 : Hid (w2.heap[w.heap.size]? = some (.cells #[.int .i64 r.status, .int .i64 r.now, .slice a1 r.vars.length c1, .slice a2 r.marks.length c2, .slice a3 r.dues.length c3] 25)) := hid (blk_below HK1.out hb2)
  clear hb2 HK1 HZ2 d0 d1 d2 d3 d4 HB1
  by_cases q2 : r2 < 0
  · go_wp2
    go_ret
    exact ⟨rfl, HB2.out⟩
  have S2 := hid ((r2c (by omega)).mono r1b)
  clear r2c
  have HT1 := hid (fun w' (hb : Below w.heap.size w w') => toS 0 l _ w' S1.out (H1.out.below hb))
  have HC1 := hid (fun w' (hb : Below w.heap.size w w') => Ch.to1 0 r _ _ _ w' S2.out (H2.out.below hb))
  clear H1 H2
  have HK2d : Hid (w2.drew.heap[w.heap.size]? = some (.cells #[.int .i64 r.status, .int .i64 r.now, .slice a1 r.vars.length c1, .slice a2 r.marks.length c2, .slice a3 r.dues.length c3] 25)) := hid HK2.out
  have hB2 := HB2.out.drew
  clear HK2 HB2
  go_wp2
  refine wp_region_held_drew (S := fun wx => wx.heap[w.heap.size]? = some (.cells #[.int .i64 r.status, .int .i64 r.now, .slice a1 r.vars.length c1, .slice a2 r.marks.length c2, .slice a3 r.dues.length c3] 25)) (by kernel_rfl) HK2d.out (fun hHeld => ?_)
  refine wpAnyH_take (i := 0) (v := .slice b0 l.length k0) rfl (by kernel_rfl) (by kernel_rfl) (by kernel_rfl) (fun _ _ _ h => h) (Or.inl ⟨by rfl, by intro w hSw; (try dsimp only at hSw); go_simp⟩) (by assumption) ?_
  simp only [Act.put, List.setIfInBounds_toArray, List.set_cons_zero, List.set_cons_succ]
  refine wpAnyH_take (i := 2) (v := .agg #[.int .i64 r.status, .int .i64 r.now, .slice a1 r.vars.length c1, .slice a2 r.marks.length c2, .slice a3 r.dues.length c3]) rfl (by kernel_rfl) (by kernel_rfl) (by kernel_rfl) (fun _ _ _ h => h) (Or.inl ⟨by rfl, by intro w hSw; (try dsimp only at hSw); have m0 := Ch.blk_cell hSw 0; have m1 := Ch.blk_cell hSw 1; have m2 := Ch.blk_cell hSw 2; have m3 := Ch.blk_cell hSw 3; have m4 := Ch.blk_cell hSw 4; clear hSw; go_simp⟩) (by assumption) ?_
  simp only [Act.put, List.setIfInBounds_toArray, List.set_cons_zero, List.set_cons_succ]
  refine wpAnyH_ready (rs := [1]) (by kernel_rfl) (by simp) ?_
  refine AllReadyH.cons rfl (fun K hK => ?_) AllReadyH.nil
  go_simp
  go_at_call 8
  refine (HT1.out _ hB2).mono ?_
  rintro e w3 ⟨u1, rfl, hu1, hb3⟩
  obtain ⟨x0, y0, rfl⟩ := hu1.slice
  have HU1 := hid hu1
  have hB3 := hB2.trans (hb3.mono hB2.size)
  have HK3 : Hid (w3.heap[w.heap.size]? = some (.cells #[.int .i64 r.status, .int .i64 r.now, .slice a1 r.vars.length c1, .slice a2 r.marks.length c2, .slice a3 r.dues.length c3] 25)) := hid (blk_below HK2d.out hb3)
  clear hu1 hb3
  go_wp2_with fail
  refine hK.out _ _ HK3.out (fun hHeld => ?_)
  clear hK K
  try simp only [Act.put, List.setIfInBounds_toArray, List.set_cons_zero, List.set_cons_succ]
  refine wpAnyH_ready (rs := [3]) (by kernel_rfl) (by simp) ?_
  refine AllReadyH.cons rfl (fun K hK => ?_) AllReadyH.nil
  go_simp
  go_at_call 9
  refine (HC1.out _ hB3).mono ?_
  rintro e w4 ⟨p1, p2, p3, rfl, hu2, hb4⟩
  obtain ⟨x1, y1, rfl⟩ := hu2.vars.slice
  obtain ⟨x2, y2, rfl⟩ := hu2.marks.slice
  obtain ⟨x3, y3, rfl⟩ := hu2.dues.slice
  have HSP := hid (specChart _ l _ r _ _ _ w4 S1.out S2.out (HU1.out.below hb4) (hu2.mono (Nat.zero_le _)))
  have hB4 := hB3.trans (hb4.mono hB3.size)
  have HK4 : Hid (w4.heap[w.heap.size]? = some (.cells #[.int .i64 r.status, .int .i64 r.now, .slice a1 r.vars.length c1, .slice a2 r.marks.length c2, .slice a3 r.dues.length c3] 25)) := hid (blk_below HK3.out hb4)
  clear hu2 hb4
  go_wp2_with fail
  refine hK.out _ _ HK4.out (fun hHeld => ?_)
  clear hK K
  try simp only [Act.put, List.setIfInBounds_toArray, List.set_cons_zero, List.set_cons_succ]
  refine wpAnyH_ready (rs := [4]) (by kernel_rfl) (by simp) ?_
  refine AllReadyH.cons rfl (fun K hK => ?_) AllReadyH.nil
  go_simp
  go_at_call 7
  refine HSP.out.mono ?_
  rintro e w5 ⟨rfl, hb5⟩
  have hB5 := hB4.trans (hb5.mono hB4.size)
  have HK5 : Hid (w5.heap[w.heap.size]? = some (.cells #[.int .i64 r.status, .int .i64 r.now, .slice a1 r.vars.length c1, .slice a2 r.marks.length c2, .slice a3 r.dues.length c3] 25)) := hid (blk_below HK4.out hb5)
  clear hb5
  go_wp2_with fail
  refine hK.out _ _ HK5.out (fun hHeld => ?_)
  clear hK K
  try simp only [Act.put, List.setIfInBounds_toArray, List.set_cons_zero, List.set_cons_succ]
  refine wpAnyH_take (i := 5) (v := .int .i64 (chartC l r)) rfl (by kernel_rfl) (by kernel_rfl) (by kernel_rfl) (fun _ _ _ h => h) (Or.inl ⟨by rfl, by intro w hSw; (try dsimp only at hSw); go_simp⟩) (by assumption) ?_
  simp only [Act.put, List.setIfInBounds_toArray, List.set_cons_zero, List.set_cons_succ]
  refine wpAnyH_done (by kernel_rfl) ?_ _
  clear hHeld HK2d HK3 HK4 HSP HU1 hB2 hB3 hB4
  generalize hcc : chartC l r = cc at *
  have HCC := hid hcc
  clear hcc
  have d0 := Ch.blk_cell HK5.out 0
  have d1 := Ch.blk_cell HK5.out 1
  have d2 := Ch.blk_cell HK5.out 2
  have d3 := Ch.blk_cell HK5.out 3
  have d4 := Ch.blk_cell HK5.out 4
  go_wp2_with fail
  refine (HT1.out _ hB5).mono ?_
  rintro e w6 ⟨u1, rfl, hu1, hb6⟩
  obtain ⟨x0, y0, rfl⟩ := hu1.slice
  have HU1 := hid (hu1.mono (Nat.zero_le _))
  have hB6 := hB5.trans (hb6.mono hB5.size)
  have HK6 : Hid (w6.heap[w.heap.size]? = some (.cells #[.int .i64 r.status, .int .i64 r.now, .slice a1 r.vars.length c1, .slice a2 r.marks.length c2, .slice a3 r.dues.length c3] 25)) := hid (blk_below HK5.out hb6)
  clear hu1 hb6 d0 d1 d2 d3 d4 HK5 hB5
  have d0 := Ch.blk_cell HK6.out 0
  have d1 := Ch.blk_cell HK6.out 1
  have d2 := Ch.blk_cell HK6.out 2
  have d3 := Ch.blk_cell HK6.out 3
  have d4 := Ch.blk_cell HK6.out 4
  go_wp2_with fail
  refine (HC1.out _ hB6).mono ?_
  rintro e w7 ⟨p1, p2, p3, rfl, hu2, hb7⟩
  obtain ⟨x1, y1, rfl⟩ := hu2.vars.slice
  obtain ⟨x2, y2, rfl⟩ := hu2.marks.slice
  obtain ⟨x3, y3, rfl⟩ := hu2.dues.slice
  obtain ⟨w8, e8⟩ : ∃ w8, w8 = w7.alloc (.cells #[.int .i64 r.status, .int .i64 r.now, .slice x1 r.vars.length y1, .slice x2 r.marks.length y2, .slice x3 r.dues.length y3] 31) := ⟨_, rfl⟩
  have hb8 : Below w7.heap.size w7 w8 := by rw [e8]; exact (Below.refl _ w7).alloc (Nat.le_refl _) _
  have HX8 : Hid (w8.heap[w7.heap.size]? = some (.cells #[.int .i64 r.status, .int .i64 r.now, .slice x1 r.vars.length y1, .slice x2 r.marks.length y2, .slice x3 r.dues.length y3] 31)) := hid (by rw [e8]; exact Ch.new_blk _ _)
  have hB7 := hB6.trans (hb7.mono hB6.size)
  have hB8 := hB7.trans (hb8.mono hB7.size)
  have HU8 := hid ((HU1.out.below hb7).below hb8)
  have HV8 := hid ((hu2.mono (Nat.zero_le _)).below hb8)
  have HK8 : Hid (w8.heap[w.heap.size]? = some (.cells #[.int .i64 r.status, .int .i64 r.now, .slice a1 r.vars.length c1, .slice a2 r.marks.length c2, .slice a3 r.dues.length c3] 25)) := hid (blk_below (blk_below HK6.out hb7) hb8)
  have HIM := hid (implChartFault l r _ _ _ _ w8 S1.out S2.out HU8.out HV8.out (HR.out.below hB8 hgl))
  rw [HCC.out] at HIM
  clear hu2 hb7 hb8 d0 d1 d2 d3 d4 HK6 hB6 hB7 HU1
  go_wp2_with fail
  rw [← e8]
  clear e8
  refine HIM.out.mono ?_
  rintro e w9 ⟨rfl, hb9⟩
  have hs : (cc != cc) = false := by simp
  have hB9 := hB8.trans (hb9.mono hB8.size)
  have HX9 : Hid (w9.heap[w7.heap.size]? = some (.cells #[.int .i64 r.status, .int .i64 r.now, .slice x1 r.vars.length y1, .slice x2 r.marks.length y2, .slice x3 r.dues.length y3] 31)) := hid (blk_below HX8.out hb9)
  have HK9 : Hid (w9.heap[w.heap.size]? = some (.cells #[.int .i64 r.status, .int .i64 r.now, .slice a1 r.vars.length c1, .slice a2 r.marks.length c2, .slice a3 r.dues.length c3] 25)) := hid (blk_below HK8.out hb9)
  have HU9 := hid (HU8.out.below hb9)
  have HV9 := hid (HV8.out.below hb9)
  clear HIM hb9 HX8 HK8 HU8 HV8 hB8
  go_wp2_with fail
  refine (HT1.out _ hB9).mono ?_
  rintro e wa ⟨u5, rfl, hu5, hba⟩
  obtain ⟨x5, y5, rfl⟩ := hu5.slice
  have hBa := hB9.trans (hba.mono hB9.size)
  have HXa : Hid (wa.heap[w7.heap.size]? = some (.cells #[.int .i64 r.status, .int .i64 r.now, .slice x1 r.vars.length y1, .slice x2 r.marks.length y2, .slice x3 r.dues.length y3] 31)) := hid (blk_below HX9.out hba)
  have HKa : Hid (wa.heap[w.heap.size]? = some (.cells #[.int .i64 r.status, .int .i64 r.now, .slice a1 r.vars.length c1, .slice a2 r.marks.length c2, .slice a3 r.dues.length c3] 25)) := hid (blk_below HK9.out hba)
  have HVa := hid (HV9.out.below hba)
  have HEQ := hid (eqS _ _ l _ _ _ S1.out (HU9.out.below hba) hu5)
  clear hu5 hba HX9 HK9 HU9 HV9 hB9
  go_wp2_with fail
  refine HEQ.out.mono ?_
  rintro e wb ⟨rfl, hbb⟩
  have hBb := hBa.trans (hbb.mono hBa.size)
  have HXb : Hid (wb.heap[w7.heap.size]? = some (.cells #[.int .i64 r.status, .int .i64 r.now, .slice x1 r.vars.length y1, .slice x2 r.marks.length y2, .slice x3 r.dues.length y3] 31)) := hid (blk_below HXa.out hbb)
  have HKb : Hid (wb.heap[w.heap.size]? = some (.cells #[.int .i64 r.status, .int .i64 r.now, .slice a1 r.vars.length c1, .slice a2 r.marks.length c2, .slice a3 r.dues.length c3] 25)) := hid (blk_below HKa.out hbb)
  have HVb := hid (HVa.out.below hbb)
  clear hbb HXa HKa HVa HEQ hBa
  have hBd := hBb.drew
  have HDd : Hid (wb.drew.heap[w.heap.size]? = some (.cells #[.int .i64 r.status, .int .i64 r.now, .slice a1 r.vars.length c1, .slice a2 r.marks.length c2, .slice a3 r.dues.length c3] 25) ∧ wb.drew.heap[w7.heap.size]? = some (.cells #[.int .i64 r.status, .int .i64 r.now, .slice x1 r.vars.length y1, .slice x2 r.marks.length y2, .slice x3 r.dues.length y3] 31)) := hid ⟨HKb.out, HXb.out⟩
  have HVd := hid (HVb.out.below (Below.refl _ wb).drew)
  clear HXb HKb HVb hBb
  go_wp2
  refine wp_region_held_drew (S := fun wx => wx.heap[w.heap.size]? = some (.cells #[.int .i64 r.status, .int .i64 r.now, .slice a1 r.vars.length c1, .slice a2 r.marks.length c2, .slice a3 r.dues.length c3] 25) ∧ wx.heap[w7.heap.size]? = some (.cells #[.int .i64 r.status, .int .i64 r.now, .slice x1 r.vars.length y1, .slice x2 r.marks.length y2, .slice x3 r.dues.length y3] 31)) (by kernel_rfl) HDd.out (fun hHeld => ?_)
  refine wpAnyH_take (i := 0) (v := .agg #[.int .i64 r.status, .int .i64 r.now, .slice x1 r.vars.length y1, .slice x2 r.marks.length y2, .slice x3 r.dues.length y3]) rfl (by kernel_rfl) (by kernel_rfl) (by kernel_rfl) (fun _ _ _ h => h) (Or.inl ⟨by rfl, by intro w hSw; (try dsimp only at hSw); have m0 := Ch.blk_cell hSw.2 0; have m1 := Ch.blk_cell hSw.2 1; have m2 := Ch.blk_cell hSw.2 2; have m3 := Ch.blk_cell hSw.2 3; have m4 := Ch.blk_cell hSw.2 4; clear hSw; go_simp⟩) (by assumption) ?_
  simp only [Act.put, List.setIfInBounds_toArray, List.set_cons_zero, List.set_cons_succ]
  refine wpAnyH_take (i := 1) (v := .agg #[.int .i64 r.status, .int .i64 r.now, .slice a1 r.vars.length c1, .slice a2 r.marks.length c2, .slice a3 r.dues.length c3]) rfl (by kernel_rfl) (by kernel_rfl) (by kernel_rfl) (fun _ _ _ h => h) (Or.inl ⟨by rfl, by intro w hSw; (try dsimp only at hSw); have m0 := Ch.blk_cell hSw.1 0; have m1 := Ch.blk_cell hSw.1 1; have m2 := Ch.blk_cell hSw.1 2; have m3 := Ch.blk_cell hSw.1 3; have m4 := Ch.blk_cell hSw.1 4; clear hSw; go_simp⟩) (by assumption) ?_
  simp only [Act.put, List.setIfInBounds_toArray, List.set_cons_zero, List.set_cons_succ]
  refine wpAnyH_ready (rs := [2]) (by kernel_rfl) (by simp) ?_
  refine AllReadyH.cons rfl (fun K hK => ?_) AllReadyH.nil
  go_simp
  go_at_call 9
  refine (HC1.out _ hBd).mono ?_
  rintro e wc ⟨p1, p2, p3, rfl, hu2, hbc⟩
  obtain ⟨z1, t1, rfl⟩ := hu2.vars.slice
  obtain ⟨z2, t2, rfl⟩ := hu2.marks.slice
  obtain ⟨z3, t3, rfl⟩ := hu2.dues.slice
  have HEC := hid (Ch.eq _ _ r _ _ _ _ _ _ wc S2.out (HVd.out.below hbc) hu2)
  have hBc := hBd.trans (hbc.mono hBd.size)
  have HDc : Hid (wc.heap[w.heap.size]? = some (.cells #[.int .i64 r.status, .int .i64 r.now, .slice a1 r.vars.length c1, .slice a2 r.marks.length c2, .slice a3 r.dues.length c3] 25) ∧ wc.heap[w7.heap.size]? = some (.cells #[.int .i64 r.status, .int .i64 r.now, .slice x1 r.vars.length y1, .slice x2 r.marks.length y2, .slice x3 r.dues.length y3] 31)) := hid ⟨blk_below HDd.out.1 hbc, blk_below HDd.out.2 hbc⟩
  clear hu2 hbc
  go_wp2_with fail
  refine hK.out _ _ HDc.out (fun hHeld => ?_)
  clear hK K
  try simp only [Act.put, List.setIfInBounds_toArray, List.set_cons_zero, List.set_cons_succ]
  refine wpAnyH_ready (rs := [3]) (by kernel_rfl) (by simp) ?_
  refine AllReadyH.cons rfl (fun K hK => ?_) AllReadyH.nil
  go_simp
  go_at_call 12
  refine HEC.out.mono ?_
  rintro e we ⟨rfl, hbe⟩
  have hBe := hBc.trans (hbe.mono hBc.size)
  have HDe : Hid (we.heap[w.heap.size]? = some (.cells #[.int .i64 r.status, .int .i64 r.now, .slice a1 r.vars.length c1, .slice a2 r.marks.length c2, .slice a3 r.dues.length c3] 25) ∧ we.heap[w7.heap.size]? = some (.cells #[.int .i64 r.status, .int .i64 r.now, .slice x1 r.vars.length y1, .slice x2 r.marks.length y2, .slice x3 r.dues.length y3] 31)) := hid ⟨blk_below HDc.out.1 hbe, blk_below HDc.out.2 hbe⟩
  clear hbe
  go_wp2_with fail
  refine hK.out _ _ HDe.out (fun hHeld => ?_)
  clear hK K
  try simp only [Act.put, List.setIfInBounds_toArray, List.set_cons_zero, List.set_cons_succ]
  refine wpAnyH_take (i := 4) (v := .bool false) rfl (by kernel_rfl) (by kernel_rfl) (by kernel_rfl) (fun _ _ _ h => h) (Or.inl ⟨by rfl, by intro w hSw; (try dsimp only at hSw); go_simp⟩) (by assumption) ?_
  simp only [Act.put, List.setIfInBounds_toArray, List.set_cons_zero, List.set_cons_succ]
  refine wpAnyH_done (by kernel_rfl) ?_ _
  go_wp2
  go_ret
  exact ⟨rfl, hBe⟩
set_option maxRecDepth 100000 in
theorem contract (H : Type) (enc : TypeId × Value → H) (W : World) (base : Nat) (args : Array Value) (ds gs : List (DataW H)) (before : List MemPlace)
    (hval : ∀ (j : Nat) t v, Tryd.f3.params[j]? = some t → args[j]? = some v → Value.okWide Tryd.prog W .any base t v)
    (hW : DataW.Whole enc Tryd.prog Tryd.f3.params.toList Rows.fnExactChartFaultSpec.vars false W args.toList ds gs before) (hL : laidMetH Tryd.prog Rows.fnExactChartFaultRow.laid W) :
    Calls Tryd.prog 3 args W fun e W' => ∃ v, e = .returned v ∧ Rows.fnExactChartFaultSpec.post enc Tryd.prog Tryd.f3 false true false false W args v W' := by
  have hent := Crd.rul_of hL
  have hW' := hW
  obtain ⟨p, q, hA0, hV, rfl, hfz, hnd⟩ := hW
  have hA : DataW.TrodAll enc Tryd.prog W 0 (fun _ => true) true Tryd.f3.params.toList args.toList ds p := hA0
  rw [Tryd.params3] at hA hval
  obtain ⟨v0, vs0, d0, ds0, p0, q0, hargs, rfl, rfl, h0, r0⟩ := trodAll_cons hA
  obtain ⟨v1, vs1, d1, ds1, p1, q1, rfl, rfl, rfl, h1, r1⟩ := trodAll_cons r0
  obtain ⟨rfl, rfl, rfl⟩ := trodAll_nil r1
  obtain rfl : args = #[v0, v1] := by cases args; simp_all
  obtain ⟨a0, len0, cap0, rfl⟩ := okWide_slice Tryd.underlying22 (hval 0 22 v0 rfl rfl)
  have k0 := h0
  have lt0 : ∀ x ∈ p0, x.block < W.heap.size := by obtain ⟨m, hm⟩ := k0; exact DataW.trod_lt m _ _ _ hm
  obtain ⟨l0, ga0, gb0, gc0⟩ : ∃ es, St.At W 0 (.slice a0 len0 cap0) es ∧ St.Ok es ∧ es.length ≤ maxLen := by
    obtain ⟨fuel, hf⟩ := h0
    exact St.open_all (by simpa [Value.cells] using hf)
  obtain ⟨cs1, rfl, _⟩ := okWide_struct Tryd.underlying25 (hval 1 25 v1 rfl rfl)
  have k1 := h1
  have lt1 : ∀ x ∈ p1, x.block < W.heap.size := by obtain ⟨m, hm⟩ := k1; exact DataW.trod_lt m _ _ _ hm
  obtain ⟨g1, n1, f1, e1, hc1, ga1, gk1⟩ : ∃ (g : Ch.RunD) (vn vf ve : Value), cs1.toList = [.int .i64 g.status, .int .i64 g.now, vn, vf, ve] ∧ Ch.At W 0 vn vf ve g ∧ Ch.Ok g := by
    obtain ⟨fuel, hf⟩ := h1
    exact Ch.open_all (by simpa [Value.cells] using hf)
  obtain rfl : cs1 = #[.int .i64 g1.status, .int .i64 g1.now, n1, f1, e1] := by cases cs1; simp_all
  clear hA0
  refine (walk l0 _ g1 _ _ _ W gc0 gb0 gk1 ga0 ga1 hent).mono fun e W' ⟨he, bel⟩ => ?_
  subst he
  have hV0 := hV
  obtain ⟨g, t, cs, fuel, dv, pv, rfl, hg, ht, hvar, hd, rfl⟩ := trodVars_one hV
  have hv' := Below.trodVars Crd.laidOut bel (ns := Rows.fnExactChartFaultSpec.vars) (by kernel_rfl) hV0
  exact ⟨_, rfl, _, _, _, [], _, _, hW', trodAll_mk1 (shut_bool Tryd.underlying4 _), (trodAll_cons_mk (Below.trod Crd.laidOut (by kernel_rfl) (of_decide_eq_true (by kernel_rfl)) k0 bel lt0) (trodAll_cons_mk (Below.trod Crd.laidOut (by kernel_rfl) (of_decide_eq_true (by kernel_rfl)) k1 bel lt1) trodAll_mk0)), hv', bel.frame _, fun h => by cases h⟩
theorem laid_met (os : Os) : laidMet Tryd.prog Rows.fnExactChartFaultRow.laid ((Crd.laidOver (World.holding Tryd.prog os ⟨#[], #[], []⟩)).forCall (fun _ _ => 0) ⟨#[], #[.slice Option.none 0 0, .agg #[.int .i64 0, .int .i64 0, .slice Option.none 0 0, .slice Option.none 0 0, .slice Option.none 0 0]], []⟩).memory :=
  laidMet_of_run' 8 (by kernel_rfl) (by kernel_rfl)
theorem reads (os : Os) {H : Type} (enc : TypeId × Value → H) : ∃ places, DataW.whole enc Tryd.prog ((Crd.laidOver (World.holding Tryd.prog os ⟨#[], #[], []⟩)).forCall (fun _ _ => 0) ⟨#[], #[.slice Option.none 0 0, .agg #[.int .i64 0, .int .i64 0, .slice Option.none 0 0, .slice Option.none 0 0, .slice Option.none 0 0]], []⟩).memory Tryd.f3.params.toList Rows.fnExactChartFaultSpec.vars false #[Value.slice Option.none 0 0, Value.agg #[.int .i64 0, .int .i64 0, .slice Option.none 0 0, .slice Option.none 0 0, .slice Option.none 0 0]].toList 8 = some ([.nil, .agg [.lit (.int .i64 0), .lit (.int .i64 0), .nil, .nil, .nil]], [Rows.laid_loop_example_g00343_impl_stepRules], places) :=
  ⟨MemPlace.row ⟨0, 0, Option.none⟩ 56, by kernel_rfl⟩
set_option maxRecDepth 100000 in
theorem lifted (os : Os) (started : os.Started) (H : Type) (enc : TypeId × Value → H) (F : Stop.Interp) :
    ReturnsInHanded {} Tryd.checked os 3 .any ((OpenSpec.ofChange Rows.fnExactChartFaultSpec).preRow enc Tryd.prog Tryd.f3 Rows.fnExactChartFaultRow.domain false Rows.fnExactChartFaultRow.laid) (((OpenSpec.ofChange Rows.fnExactChartFaultSpec).at F).post enc Tryd.prog Tryd.f3 false true false false) := by
  obtain ⟨places, hx⟩ := reads os enc
  refine returnsInHanded_of_row (C := Tryd.checked) (s := OpenSpec.ofChange Rows.fnExactChartFaultSpec) Crd.own started (by kernel_rfl) Tryd.func3
    (witness_row_at (enc := enc) (C := Tryd.checked) false (Crd.laidOver (World.holding Tryd.prog os ⟨#[], #[], []⟩)) #[.slice Option.none 0 0, .agg #[.int .i64 0, .int .i64 0, .slice Option.none 0 0, .slice Option.none 0 0, .slice Option.none 0 0]] rfl (by kernel_rfl) (by kernel_rfl) (by kernel_rfl)
      (OpenSpec.preRow_of_cond 8 hx (by kernel_rfl) (fun k hk => by cases hk) (by kernel_rfl) (laid_met os))) ?_
  intro W base args ds gs before hval hW _ _ _ hL _ _
  exact contract H enc W base args ds gs before hval hW hL
theorem said : Rows.FnExactChartFaultSaid :=
  OpenClaim.holds_of_cond 3 Tryd.f3 rfl rfl rfl rfl rfl rfl rfl ⟨rfl, rfl, rfl, rfl, rfl⟩ rfl rfl rfl rfl rfl (by kernel_rfl) Tryd.func3 (by kernel_rfl)
    (of_decide_eq_true (by kernel_rfl)) (by unfold Func.isWrapper; first | (rw [if_pos (by decide +kernel)]; kernel_rfl) | (rw [if_neg (by decide +kernel)]; exact ⟨rfl, rfl⟩))
    (fun os started H enc _ F => by rw [OpenClaim.pre_eq_preRow]; exact lifted os started H enc F)
set_option maxRecDepth 100000 in
theorem plain (f : FuncId) (fn : Func) (hf : Tryd.pinned.checked.prog.funcNamed "loop.example/g00343/laws.FnExactChartFault" = some f) (hfn : Tryd.pinned.checked.prog.funcs[f]? = some fn) :
    true = Tryd.pinned.checked.prog.looks [] ∧ ∀ (j : Nat) t, fn.params[j]? = some t → Tryd.pinned.checked.prog.wantsStandIn t = false := by
  obtain rfl : f = 3 := Option.some.inj ((show Tryd.prog.funcNamed "loop.example/g00343/laws.FnExactChartFault" = some 3 by kernel_rfl).symm.trans hf) |>.symm
  obtain rfl : fn = Tryd.f3 := (Option.some.inj (Tryd.func3.symm.trans hfn)).symm
  refine ⟨by kernel_rfl, fun j t ht => ?_⟩
  rw [Tryd.params3] at ht
  have hm : t = 22 ∨ t = 25 := by simpa using Array.mem_of_getElem? ht
  rcases hm with rfl | rfl
  · exact (show Tryd.prog.wantsStandIn 22 = false by kernel_rfl)
  · exact (show Tryd.prog.wantsStandIn 25 = false by kernel_rfl)
end KfL
theorem fnExactChartFault_card : Rows.FnExactChartFaultCardSaid :=
  Claim7.holds_tied_plain_at .later [] _ _ _ _ KfL.said (fun _ h => by cases h) (by kernel_rfl) (fun _ h => by cases h) fnExactChartFault_row_tie rfl ⟨rfl, rfl⟩ (by kernel_rfl) rfl KfL.plain (by kernel_rfl)
#print axioms fnExactChartFault_card
end Go.Proofs.YtdmekehlkfbigaaDoor
