/- Whatever list of processes is handed in, NewWorld answers as the specification's NewWorld does, in code and in the world, whose rows own their memory, behind another call too, and the list reads afterwards as before. Condition, tied to the program's own text: the table of rules holds what its initialiser lays. -/
import Derived.Test.YtccklgopcjilcaaGreatDoorJNW11
import Derived.Test.YtccklgopcjilcaaGreatDoorJNW45
import Derived.Test.YtccklgopcjilcaaGreatDoorJNW49
import Derived.Test.YtccklgopcjilcaaGreatDoorJNW50
import Derived.Deep.RegionHeld3
namespace Go.Proofs.YtccklgopcjilcaaGreatDoor
open Go.ChangeShapes Go.WideShapes Go.ChangeAt Go.RowKit Go.Deep
open Go.ChangeMaps (open_string shut_string)
set_option linter.unusedVariables false
set_option linter.unusedSimpArgs false
namespace NwL
open Ex (hid)
open Pf (Rul pFault)
open St (StepD Amid)
open En (EngD)
open Eg (procsC)
open Eo (EOwn EOwnC FewE FewP FewI Few noE mkE kE Chg)
theorem blk_below {w w' : World} {b : Nat} {o : Obj} (h : w.heap[b]? = some o) (hb : Below w.heap.size w w') : w'.heap[b]? = some o := (hb.block b (Ch.blk_lt h)).trans h
theorem blk_amid {w w' : World} {b B C : Nat} {o : Obj} (h : w.heap[b]? = some o) (hb : Amid w w' B C) (ho : b < B ∨ C ≤ b) : w'.heap[b]? = some o := (hb.block b (Ch.blk_lt h) ho).trans h
theorem blk_chg {w w' : World} {b : Nat} {S : Nat → Prop} {o : Obj} (h : w.heap[b]? = some o) (hb : Chg S w w') (ho : ¬ S b) : w'.heap[b]? = some o := (hb.block b (Ch.blk_lt h) ho).trans h
theorem below_amid {D : Nat} {x w w' : World} {B C : Nat} (h : Below D x w) (hx : D ≤ x.heap.size) (ha : Amid w w' B C) (hB : D ≤ B) : Below D x w' := ⟨ha.os.trans h.os, ha.tape.trans h.tape, ha.output.trans h.output, Nat.le_trans h.size ha.size, fun b hb => (ha.block b (Nat.lt_of_lt_of_le (Nat.lt_of_lt_of_le hb hx) h.size) (.inl (Nat.lt_of_lt_of_le hb hB))).trans (h.block b hb)⟩
theorem below_chg {x w w' : World} {B M : Nat} (h : Below x.heap.size x w) (ha : Chg (fun b => B ≤ b ∧ b < M) w w') (hB : x.heap.size ≤ B) : Below x.heap.size x w' := Chg.below h ha (fun b hb => by omega)
theorem new_below (w : World) (o : Obj) : Below w.heap.size w (w.alloc o) := (Below.refl _ w).alloc (Nat.le_refl _) _
theorem own_amid {w w' : World} {B C D M : Nat} {vp vi : Value} {e : EngD} (h : EOwnC w D M vp vi e) (ha : Amid w w' B C) (hC : C ≤ D) : EOwnC w' D M vp vi e := h.keep ha.size (fun b hb _ hl => ha.block b hl (.inr (by omega)))
theorem few_p {ps : List (List StepD)} (h : procsC ps = 0) : FewP ps := by
  unfold procsC at h
  by_cases hl : ps.length < 1 ∨ 3 < ps.length
  · rw [if_pos hl] at h; cases h
  · rw [if_neg hl] at h
    have ha := Eg.nz_all h
    refine ⟨by omega, fun j hj => ?_⟩
    rw [Eo.PJs_eq hj]
    have hp := ha _ (List.getElem_mem hj)
    have hn := Pf.of_p hp
    refine ⟨by omega, fun i hi => ?_⟩
    rw [So.SJ_eq hi]
    have := Gr.few hp hi
    omega
theorem new_few (ps : List (List StepD)) : FewE (if procsC ps = 0 then (⟨ps, [], 0⟩ : EngD) else noE) := by
  by_cases h : procsC ps = 0
  · rw [if_pos h]
    exact ⟨few_p h, ⟨by simp, fun j hj => by simp at hj⟩⟩
  · rw [if_neg h]
    exact ⟨⟨by simp, fun j hj => by simp at hj⟩, ⟨by simp, fun j hj => by simp at hj⟩⟩
theorem new_small {ps : List (List StepD)} (hs : Ep.Small 1048576 ps) (hw : (Ep.wt ps : Int) ≤ 1048576) : En.Small 1048576 (if procsC ps = 0 then (⟨ps, [], 0⟩ : EngD) else noE) := by
  by_cases h : procsC ps = 0
  · rw [if_pos h]
    exact ⟨hs, ⟨by simp, fun x h => by cases h⟩, hw⟩
  · rw [if_neg h]
    exact ⟨⟨by simp, fun x h => by cases h⟩, ⟨by simp, fun x h => by cases h⟩, by simp [Ep.wt]⟩
set_option maxRecDepth 100000 in
set_option maxHeartbeats 16000000 in
theorem walk (ps : List (List StepD)) (v : Value) (w : World) (hl : ps.length ≤ maxLen) (kl : Ep.Ok ps) (h1 : Ep.At w 0 v ps) (hr : Rul w) :
    Calls Tryz.prog 3 #[v] w fun e w' => e = .returned (.bool true) ∧ Below w.heap.size w w' := by
  have hgl := hr.lt
  obtain ⟨b0, k0, rfl⟩ := h1.slice
  have HZ1 := hid (Ep.szS 0 ps _ 1048576 w (by omega) (by omega) hl kl h1)
  have H1 := hid h1
  have HR := hid hr
  clear h1 hl kl hr
  go_enter Tryz.func3, Tryz.ntmps3
  go_wp2_with fail
  refine HZ1.out.mono ?_
  rintro e w1 ⟨⟨r1, rfl, r1a, r1b, r1c⟩, hb1⟩
  have HB2 := hid hb1
  clear hb1 HZ1
  by_cases q1 : r1 < 0
  · go_wp2
    go_ret
    exact ⟨rfl, HB2.out⟩
  have S1 := hid (r1c (by omega)).1
  have HW : Hid ((Ep.wt ps : Int) ≤ 1048576) := hid (by have := (r1c (by omega)).2; omega)
  clear r1c
  have hln := S1.out.1
  have HT := hid (fun w' (hb : Below w.heap.size w w') => Ep.toS2 0 ps _ w' S1.out (H1.out.below hb))
  have HIK := hid (fun u w' (hb : Below w.heap.size w w') (hu : Ep.At w' 0 u ps) => Wn.implNewWorld ps u w' S1.out HW.out hu (HR.out.below hb hgl))
  have HSK := hid (fun u w' (hu : Ep.At w' 0 u ps) => Wn.specNewWorld 0 ps u w' S1.out hu)
  have SR := hid (new_small S1.out HW.out)
  have FR := hid (new_few ps)
  clear H1
  generalize hxx : (if procsC ps = 0 then (⟨ps, [], 0⟩ : EngD) else noE) = rr at *
  generalize hcc : procsC ps = cc at *
  clear hcc hxx
  go_wp2_with fail
  refine (HT.out _ HB2.out).mono ?_
  rintro e q1 ⟨u1, rfl, hu1, _, hb1⟩
  obtain ⟨x0, y0, rfl⟩ := hu1.slice
  have U1 := hid (hu1.mono (Nat.zero_le _))
  have BW1 := hid (HB2.out.trans (hb1.mono HB2.out.size))
  clear hu1 hb1
  go_wp2_with fail
  refine (HSK.out _ _ U1.out).mono ?_
  rintro e q3 ⟨⟨s1, s2, rfl, hO⟩, hb3⟩
  have II3 := hid hO.at'
  obtain ⟨m1, n1, rfl⟩ := II3.out.procs.slice
  obtain ⟨m2, n2, rfl⟩ := II3.out.insts.slice
  have BW3 := hid (BW1.out.trans (hb3.mono BW1.out.size))
  clear hO hb3 U1
  obtain ⟨wc, ewc⟩ : ∃ wc, wc = q3.alloc (.cells #[.int .i64 cc, .int .i64 0, .int .i64 0, .slice m1 rr.procs.length n1, .slice m2 rr.insts.length n2, .int .i64 rr.now, .slice none 0 0, .slice none 0 0, .slice none 0 0] 37) := ⟨_, rfl⟩
  have hbc : Below q3.heap.size q3 wc := by rw [ewc]; exact new_below q3 _
  obtain ⟨p, ep⟩ : ∃ p, p = q3.heap.size := ⟨_, rfl⟩
  have PP : Hid (wc.heap[p]? = some (.cells #[.int .i64 cc, .int .i64 0, .int .i64 0, .slice m1 rr.procs.length n1, .slice m2 rr.insts.length n2, .int .i64 rr.now, .slice none 0 0, .slice none 0 0, .slice none 0 0] 37)) := hid (by rw [ewc, ep]; exact Ch.new_blk _ _)
  have I0 := hid ((II3.out.mono (Nat.zero_le _)).below hbc)
  have B3 := BW3.out.trans (hbc.mono BW3.out.size)
  have EP := hid ep
  have EWC := hid ewc
  clear hbc ep ewc II3 BW1 BW3 HSK HB2
  go_wp2_with fail
  rw [← EWC.out, ← EP.out]
  clear EWC EP
  refine (HT.out _ B3).mono ?_
  rintro e w5 ⟨u5, rfl, hu5, hw5, hb5⟩
  obtain ⟨x0, y0, rfl⟩ := hu5.slice
  have B5 := B3.trans (hb5.mono B3.size)
  have C5 := hid hb5
  have U5 := hid (hu5.mono (Nat.zero_le _))
  have W5 := hid hw5
  have l5 := hb5.size
  clear hu5 hw5 hb5
  have HIM := hid (HIK.out _ w5 B5 U5.out)
  go_wp2_with fail
  refine HIM.out.mono ?_
  rintro e w9 ⟨⟨g1, g2, rfl, hO9⟩, hb9⟩
  obtain ⟨h1, i1, rfl⟩ := hO9.at'.procs.slice
  obtain ⟨h2, i2, rfl⟩ := hO9.at'.insts.slice
  obtain ⟨wa, ea⟩ : ∃ wa, wa = w9.alloc (.cells #[.int .i64 cc, .int .i64 0, .int .i64 0, .slice h1 rr.procs.length i1, .slice h2 rr.insts.length i2, .int .i64 rr.now, .slice none 0 0, .slice none 0 0, .slice none 0 0] 37) := ⟨_, rfl⟩
  have hxa : Below w9.heap.size w9 wa := by rw [ea]; exact new_below w9 _
  have hba : Below w5.heap.size w5 wa := hb9.trans (hxa.mono hb9.size)
  obtain ⟨G, eG⟩ : ∃ G, G = w9.heap.size := ⟨_, rfl⟩
  have Ga : Hid (wa.heap[G]? = some (.cells #[.int .i64 cc, .int .i64 0, .int .i64 0, .slice h1 rr.procs.length i1, .slice h2 rr.insts.length i2, .int .i64 rr.now, .slice none 0 0, .slice none 0 0, .slice none 0 0] 37)) := hid (by rw [ea, eG]; exact Ch.new_blk _ _)
  have na : w9.heap.size < wa.heap.size := by rw [ea]; simp
  have l9 := hb9.size
  have LG := hid eG
  have Oa : Hid (EOwnC wa w5.heap.size G (.slice h1 rr.procs.length i1) (.slice h2 rr.insts.length i2) rr) := hid (by rw [eG]; exact (EOwnC.of hO9).below hxa)
  have Ba := B5.trans (hba.mono B5.size)
  have Ca := hid (C5.out.trans (hba.mono C5.out.size))
  have Ua := hid (U5.out.below hba)
  have Wa := hid (W5.out.below hba)
  have P9 := blk_below PP.out (C5.out.trans (hb9.mono C5.out.size))
  have pp0 := Ch.blk_cell P9 0
  have pp1 := Ch.blk_cell P9 1
  have pp2 := Ch.blk_cell P9 2
  have pp3 := Ch.blk_cell P9 3
  have pp4 := Ch.blk_cell P9 4
  have pp5 := Ch.blk_cell P9 5
  have pp6 := Ch.blk_cell P9 6
  have pp7 := Ch.blk_cell P9 7
  have pp8 := Ch.blk_cell P9 8
  have ppl := Ch.blk_lt P9
  have EA := hid ea
  clear P9 hO9 hb9 hxa hba U5 W5 C5 HIM eG ea
  go_wp2_with fail
  rw [← EA.out, ← LG.out]
  clear EA
  refine (Wn.eqWorldResult _ _ cc rr _ _ _ _ wa SR.out Oa.out.own.at' (I0.out.below Ca.out)).mono ?_
  rintro e wb ⟨rfl, hbb⟩
  clear pp0 pp1 pp2 pp3 pp4 pp5 pp6 pp7 pp8 ppl
  have Gb : Hid (wb.heap[G]? = some (.cells #[.int .i64 cc, .int .i64 0, .int .i64 0, .slice h1 rr.procs.length i1, .slice h2 rr.insts.length i2, .int .i64 rr.now, .slice none 0 0, .slice none 0 0, .slice none 0 0] 37)) := hid (blk_below Ga.out hbb)
  have Ob := hid (Oa.out.below hbb)
  have Ub := hid (Ua.out.below hbb)
  have Wb := hid (Wa.out.below hbb)
  have Bb := Ba.trans (hbb.mono Ba.size)
  have Cb := hid (Ca.out.trans (hbb.mono Ca.out.size))
  have sb := hbb.size
  clear Ga Oa Ua Wa Ca
  clear hbb
  go_wp2_with fail
  refine (HT.out _ Bb).mono ?_
  rintro e wd ⟨u3, rfl, hu4, _, hbd⟩
  obtain ⟨x7, y7, rfl⟩ := hu4.slice
  have HEQ := hid (Ep.eqS _ _ ps _ _ wd S1.out (Ub.out.below hbd) hu4)
  have Gd : Hid (wd.heap[G]? = some (.cells #[.int .i64 cc, .int .i64 0, .int .i64 0, .slice h1 rr.procs.length i1, .slice h2 rr.insts.length i2, .int .i64 rr.now, .slice none 0 0, .slice none 0 0, .slice none 0 0] 37)) := hid (blk_below Gb.out hbd)
  have Od := hid (Ob.out.below hbd)
  have Wd := hid (Wb.out.below hbd)
  have Bd := Bb.trans (hbd.mono Bb.size)
  have Cd := hid (Cb.out.trans (hbd.mono Cb.out.size))
  have sd := hbd.size
  clear Gb Ob Wb Cb
  clear hu4 hbd Ub
  go_wp2_with fail
  refine HEQ.out.mono ?_
  rintro e we ⟨rfl, hbe⟩
  have Ge : Hid (we.heap[G]? = some (.cells #[.int .i64 cc, .int .i64 0, .int .i64 0, .slice h1 rr.procs.length i1, .slice h2 rr.insts.length i2, .int .i64 rr.now, .slice none 0 0, .slice none 0 0, .slice none 0 0] 37)) := hid (blk_below Gd.out hbe)
  have Oe := hid (Od.out.below hbe)
  have We := hid (Wd.out.below hbe)
  have Be := Bd.trans (hbe.mono Bd.size)
  have Ce := hid (Cd.out.trans (hbe.mono Cd.out.size))
  have se := hbe.size
  clear Gd Od Wd Cd
  clear hbe HEQ
  go_wp2_with fail
  refine (Ep.markS _ _ _ ps _ _ (by omega) (by omega) (by have := HW.out; omega) We.out).mono ?_
  rintro e wj ⟨⟨rj, rfl, hrj, hrj2⟩, ham⟩
  have Gj : Hid (wj.heap[G]? = some (.cells #[.int .i64 cc, .int .i64 0, .int .i64 0, .slice h1 rr.procs.length i1, .slice h2 rr.insts.length i2, .int .i64 rr.now, .slice none 0 0, .slice none 0 0, .slice none 0 0] 37)) := hid (blk_amid Ge.out ham (.inr (by have := LG.out; omega)))
  have Oj := hid (own_amid Oe.out ham (Nat.le_refl _))
  have Bj := below_amid Be (Nat.le_refl _) ham (by have := B3.size; omega)
  have Cj := hid (below_amid Ce.out (Nat.le_refl _) ham (Nat.le_refl _))
  have sj := ham.size
  clear Ge Oe Ce ham We
  have qk : ¬ rj < 0 := by omega
  have PX := blk_below PP.out Cj.out
  have pp0 := Ch.blk_cell PX 0
  have pp1 := Ch.blk_cell PX 1
  have pp2 := Ch.blk_cell PX 2
  have pp3 := Ch.blk_cell PX 3
  have pp4 := Ch.blk_cell PX 4
  have pp5 := Ch.blk_cell PX 5
  have pp6 := Ch.blk_cell PX 6
  have pp7 := Ch.blk_cell PX 7
  have pp8 := Ch.blk_cell PX 8
  have ppl := Ch.blk_lt PX
  clear PX
  have pg0 := Ch.blk_cell Gj.out 0
  have pg1 := Ch.blk_cell Gj.out 1
  have pg2 := Ch.blk_cell Gj.out 2
  have pg3 := Ch.blk_cell Gj.out 3
  have pg4 := Ch.blk_cell Gj.out 4
  have pg5 := Ch.blk_cell Gj.out 5
  have pg6 := Ch.blk_cell Gj.out 6
  have pg7 := Ch.blk_cell Gj.out 7
  have pg8 := Ch.blk_cell Gj.out 8
  have pgl := Ch.blk_lt Gj.out
  go_wp2_with fail
  refine (Wn.eqWorldResult _ _ cc rr _ _ _ _ wj SR.out Oj.out.own.at' (I0.out.below Cj.out)).mono ?_
  rintro e wm ⟨rfl, hbm⟩
  clear pp0 pp1 pp2 pp3 pp4 pp5 pp6 pp7 pp8 ppl
  clear pg0 pg1 pg2 pg3 pg4 pg5 pg6 pg7 pg8 pgl
  have Gm : Hid (wm.heap[G]? = some (.cells #[.int .i64 cc, .int .i64 0, .int .i64 0, .slice h1 rr.procs.length i1, .slice h2 rr.insts.length i2, .int .i64 rr.now, .slice none 0 0, .slice none 0 0, .slice none 0 0] 37)) := hid (blk_below Gj.out hbm)
  have Om := hid (Oj.out.below hbm)
  have Bm := Bj.trans (hbm.mono Bj.size)
  have Cm := hid (Cj.out.trans (hbm.mono Cj.out.size))
  have sm := hbm.size
  clear Gj Oj Cj
  clear hbm
  have hke := Eo.kE_pos FR.out (k0 := 1) (by omega)
  have pg0 := Ch.blk_cell Gm.out 0
  have pg1 := Ch.blk_cell Gm.out 1
  have pg2 := Ch.blk_cell Gm.out 2
  have pg3 := Ch.blk_cell Gm.out 3
  have pg4 := Ch.blk_cell Gm.out 4
  have pg5 := Ch.blk_cell Gm.out 5
  have pg6 := Ch.blk_cell Gm.out 6
  have pg7 := Ch.blk_cell Gm.out 7
  have pg8 := Ch.blk_cell Gm.out 8
  have pgl := Ch.blk_lt Gm.out
  go_wp2_with fail
  refine (Wn.markWorldResult w5.heap.size G cc rr _ _ wm FR.out Om.out (by have := LG.out; omega)).mono ?_
  rintro e wn ⟨rfl, hon, hwn⟩
  clear pg0 pg1 pg2 pg3 pg4 pg5 pg6 pg7 pg8 pgl
  have Gn : Hid (wn.heap[G]? = some (.cells #[.int .i64 cc, .int .i64 0, .int .i64 0, .slice h1 rr.procs.length i1, .slice h2 rr.insts.length i2, .int .i64 rr.now, .slice none 0 0, .slice none 0 0, .slice none 0 0] 37)) := hid (blk_chg Gm.out hwn (fun h => by omega))
  have Mn := hid (hon.own.at')
  have Bn := below_chg Bm hwn (by have := B3.size; omega)
  have Cn := hid (below_chg Cm.out hwn (by omega))
  have sn := hwn.size
  clear hon hwn Gm Om Cm
  have pg0 := Ch.blk_cell Gn.out 0
  have pg1 := Ch.blk_cell Gn.out 1
  have pg2 := Ch.blk_cell Gn.out 2
  have pg3 := Ch.blk_cell Gn.out 3
  have pg4 := Ch.blk_cell Gn.out 4
  have pg5 := Ch.blk_cell Gn.out 5
  have pg6 := Ch.blk_cell Gn.out 6
  have pg7 := Ch.blk_cell Gn.out 7
  have pg8 := Ch.blk_cell Gn.out 8
  have pgl := Ch.blk_lt Gn.out
  go_wp2_with fail
  refine (Wn.heldWorldResult _ cc rr _ _ _ wn FR.out Mn.out).mono ?_
  rintro e wo ⟨rfl, hbo⟩
  clear pg0 pg1 pg2 pg3 pg4 pg5 pg6 pg7 pg8 pgl
  have Go : Hid (wo.heap[G]? = some (.cells #[.int .i64 cc, .int .i64 0, .int .i64 0, .slice h1 rr.procs.length i1, .slice h2 rr.insts.length i2, .int .i64 rr.now, .slice none 0 0, .slice none 0 0, .slice none 0 0] 37)) := hid (blk_below Gn.out hbo)
  have Mo := hid (Mn.out.below hbo)
  have Bo := Bn.trans (hbo.mono Bn.size)
  have Co := hid (Cn.out.trans (hbo.mono Cn.out.size))
  have so := hbo.size
  clear Gn Mn Cn
  clear hbo
  have qq1 : ¬ kE 1 rr < 0 := by omega
  have qq2 : (kE 1 rr != kE 1 rr) = false := by simp
  go_wp2_with fail
  refine (HT.out _ Bo).mono ?_
  rintro e wr ⟨u6, rfl, hu6, _, hb6⟩
  obtain ⟨x6, y6, rfl⟩ := hu6.slice
  have U6 := hid (hu6.mono (Nat.zero_le _))
  have Gr : Hid (wr.heap[G]? = some (.cells #[.int .i64 cc, .int .i64 0, .int .i64 0, .slice h1 rr.procs.length i1, .slice h2 rr.insts.length i2, .int .i64 rr.now, .slice none 0 0, .slice none 0 0, .slice none 0 0] 37)) := hid (blk_below Go.out hb6)
  have Mr := hid (Mo.out.below hb6)
  have Br := Bo.trans (hb6.mono Bo.size)
  have Cr := hid (Co.out.trans (hb6.mono Co.out.size))
  have sr := hb6.size
  clear Go Mo Co
  clear hu6 hb6
  have HIM := hid (HIK.out _ wr Br U6.out)
  go_wp2_with fail
  refine HIM.out.mono ?_
  rintro e wt ⟨⟨g3, g4, rfl, hO⟩, hb7⟩
  obtain ⟨m3, n3, rfl⟩ := hO.at'.procs.slice
  obtain ⟨m4, n4, rfl⟩ := hO.at'.insts.slice
  have J0 := hid hO.at'
  have Gt : Hid (wt.heap[G]? = some (.cells #[.int .i64 cc, .int .i64 0, .int .i64 0, .slice h1 rr.procs.length i1, .slice h2 rr.insts.length i2, .int .i64 rr.now, .slice none 0 0, .slice none 0 0, .slice none 0 0] 37)) := hid (blk_below Gr.out hb7)
  have Mt := hid (Mr.out.below hb7)
  have Bt := Br.trans (hb7.mono Br.size)
  have Ct := hid (Cr.out.trans (hb7.mono Cr.out.size))
  have st := hb7.size
  clear Gr Mr Cr
  obtain ⟨wy, ewy⟩ : ∃ wy, wy = wt.alloc (.cells #[.int .i64 cc, .int .i64 0, .int .i64 0, .slice m3 rr.procs.length n3, .slice m4 rr.insts.length n4, .int .i64 rr.now, .slice none 0 0, .slice none 0 0, .slice none 0 0] 37) := ⟨_, rfl⟩
  have hby : Below wt.heap.size wt wy := by rw [ewy]; exact new_below wt _
  have PT := blk_below PP.out Ct.out
  have pp0 := Ch.blk_cell PT 0
  have pp1 := Ch.blk_cell PT 1
  have pp2 := Ch.blk_cell PT 2
  have pp3 := Ch.blk_cell PT 3
  have pp4 := Ch.blk_cell PT 4
  have pp5 := Ch.blk_cell PT 5
  have pp6 := Ch.blk_cell PT 6
  have pp7 := Ch.blk_cell PT 7
  have pp8 := Ch.blk_cell PT 8
  have ppl := Ch.blk_lt PT
  have J1 := hid (J0.out.below hby)
  have Gy : Hid (wy.heap[G]? = some (.cells #[.int .i64 cc, .int .i64 0, .int .i64 0, .slice h1 rr.procs.length i1, .slice h2 rr.insts.length i2, .int .i64 rr.now, .slice none 0 0, .slice none 0 0, .slice none 0 0] 37)) := hid (blk_below Gt.out hby)
  have My := hid (Mt.out.below hby)
  have By := Bt.trans (hby.mono Bt.size)
  have Cy := hid (Ct.out.trans (hby.mono Ct.out.size))
  have sy := hby.size
  clear Gt Mt Ct
  have EWY := hid ewy
  clear PT hO hb7 hby ewy J0 HIM U6
  go_wp2_with fail
  rw [← EWY.out]
  clear EWY
  refine (Wn.eqWorldResult _ _ cc rr _ _ _ _ wy SR.out J1.out (I0.out.below Cy.out)).mono ?_
  rintro e wz ⟨rfl, hbz⟩
  clear pp0 pp1 pp2 pp3 pp4 pp5 pp6 pp7 pp8 ppl
  have Gz : Hid (wz.heap[G]? = some (.cells #[.int .i64 cc, .int .i64 0, .int .i64 0, .slice h1 rr.procs.length i1, .slice h2 rr.insts.length i2, .int .i64 rr.now, .slice none 0 0, .slice none 0 0, .slice none 0 0] 37)) := hid (blk_below Gy.out hbz)
  have Mz := hid (My.out.below hbz)
  have Bz := By.trans (hbz.mono By.size)
  have Cz := hid (Cy.out.trans (hbz.mono Cy.out.size))
  have sz := hbz.size
  clear Gy My Cy
  clear hbz J1
  have pg0 := Ch.blk_cell Gz.out 0
  have pg1 := Ch.blk_cell Gz.out 1
  have pg2 := Ch.blk_cell Gz.out 2
  have pg3 := Ch.blk_cell Gz.out 3
  have pg4 := Ch.blk_cell Gz.out 4
  have pg5 := Ch.blk_cell Gz.out 5
  have pg6 := Ch.blk_cell Gz.out 6
  have pg7 := Ch.blk_cell Gz.out 7
  have pg8 := Ch.blk_cell Gz.out 8
  have pgl := Ch.blk_lt Gz.out
  go_wp2_with fail
  refine (Wn.heldWorldResult _ cc rr _ _ _ wz FR.out Mz.out).mono ?_
  rintro e wq ⟨rfl, hbq⟩
  have Bq := Bz.trans (hbq.mono Bz.size)
  go_wp2
  go_ret
  exact ⟨rfl, Bq⟩
set_option maxRecDepth 100000 in
theorem contract (H : Type) (enc : TypeId × Value → H) (W : World) (base : Nat) (args : Array Value) (ds gs : List (DataW H)) (before : List MemPlace)
    (hval : ∀ (j : Nat) t v, Tryz.f3.params[j]? = some t → args[j]? = some v → Value.okWide Tryz.prog W .any base t v)
    (hW : DataW.Whole enc Tryz.prog Tryz.f3.params.toList Rows.fnExactNewWorldSpec.vars false W args.toList ds gs before) (hL : laidMetH Tryz.prog Rows.fnExactNewWorldRow.laid W) :
    Calls Tryz.prog 3 args W fun e W' => ∃ v, e = .returned v ∧ Rows.fnExactNewWorldSpec.post enc Tryz.prog Tryz.f3 false true false false W args v W' := by
  have hent := Crd.rul_of hL
  have hW' := hW
  obtain ⟨p, q, hA0, hV, rfl, hfz, hnd⟩ := hW
  have hA : DataW.TrodAll enc Tryz.prog W 0 (fun _ => true) true Tryz.f3.params.toList args.toList ds p := hA0
  rw [Tryz.params3] at hA hval
  obtain ⟨v0, vs0, d0, ds0, p0, q0, hargs, rfl, rfl, h0, r0⟩ := trodAll_cons hA
  obtain ⟨rfl, rfl, rfl⟩ := trodAll_nil r0
  obtain rfl : args = #[v0] := by cases args; simp_all
  obtain ⟨a0, len0, cap0, rfl⟩ := okWide_slice Tryz.underlying22 (hval 0 22 v0 rfl rfl)
  have k0 := h0
  have lt0 : ∀ x ∈ p0, x.block < W.heap.size := by obtain ⟨m, hm⟩ := k0; exact DataW.trod_lt m _ _ _ hm
  obtain ⟨l0, ga0, gb0, gc0⟩ : ∃ es, Ep.At W 0 (.slice a0 len0 cap0) es ∧ Ep.Ok es ∧ es.length ≤ maxLen := by
    obtain ⟨fuel, hf⟩ := h0
    exact Ep.open_all (by simpa [Value.cells] using hf)
  clear hA0
  refine (walk l0 _ W gc0 gb0 ga0 hent).mono fun e W' ⟨he, bel⟩ => ?_
  subst he
  have hV0 := hV
  obtain ⟨g, t, cs, fuel, dv, pv, rfl, hg, ht, hvar, hd, rfl⟩ := trodVars_one hV
  have hv' := Below.trodVars Crd.laidOut bel (ns := Rows.fnExactNewWorldSpec.vars) (by kernel_rfl) hV0
  exact ⟨_, rfl, _, _, _, [], _, _, hW', trodAll_mk1 (shut_bool Tryz.underlying4 _), (trodAll_cons_mk (Below.trod Crd.laidOut (by kernel_rfl) (of_decide_eq_true (by kernel_rfl)) k0 bel lt0) trodAll_mk0), hv', bel.frame _, fun h => by cases h⟩
theorem laid_met (os : Os) : laidMet Tryz.prog Rows.fnExactNewWorldRow.laid ((Crd.laidOver (World.holding Tryz.prog os ⟨#[], #[], []⟩)).forCall (fun _ _ => 0) ⟨#[], #[.slice Option.none 0 0], []⟩).memory :=
  laidMet_of_run' 8 (by kernel_rfl) (by kernel_rfl)
theorem reads (os : Os) {H : Type} (enc : TypeId × Value → H) : ∃ places, DataW.whole enc Tryz.prog ((Crd.laidOver (World.holding Tryz.prog os ⟨#[], #[], []⟩)).forCall (fun _ _ => 0) ⟨#[], #[.slice Option.none 0 0], []⟩).memory Tryz.f3.params.toList Rows.fnExactNewWorldSpec.vars false #[Value.slice Option.none 0 0].toList 8 = some ([.nil], [Rows.laid_loop_example_g00343_impl_stepRules], places) :=
  ⟨MemPlace.row ⟨0, 0, Option.none⟩ 56, by kernel_rfl⟩
set_option maxRecDepth 100000 in
theorem lifted (os : Os) (started : os.Started) (H : Type) (enc : TypeId × Value → H) (F : Stop.Interp) :
    ReturnsInHanded {} Tryz.checked os 3 .any ((OpenSpec.ofChange Rows.fnExactNewWorldSpec).preRow enc Tryz.prog Tryz.f3 Rows.fnExactNewWorldRow.domain false Rows.fnExactNewWorldRow.laid) (((OpenSpec.ofChange Rows.fnExactNewWorldSpec).at F).post enc Tryz.prog Tryz.f3 false true false false) := by
  obtain ⟨places, hx⟩ := reads os enc
  refine returnsInHanded_of_row (C := Tryz.checked) (s := OpenSpec.ofChange Rows.fnExactNewWorldSpec) Crd.own started (by kernel_rfl) Tryz.func3
    (witness_row_at (enc := enc) (C := Tryz.checked) false (Crd.laidOver (World.holding Tryz.prog os ⟨#[], #[], []⟩)) #[.slice Option.none 0 0] rfl (by kernel_rfl) (by kernel_rfl) (by kernel_rfl)
      (OpenSpec.preRow_of_cond 8 hx (by kernel_rfl) (fun k hk => by cases hk) (by kernel_rfl) (laid_met os))) ?_
  intro W base args ds gs before hval hW _ _ _ hL _ _
  exact contract H enc W base args ds gs before hval hW hL
theorem said : Rows.FnExactNewWorldSaid :=
  OpenClaim.holds_of_cond 3 Tryz.f3 rfl rfl rfl rfl rfl rfl rfl ⟨rfl, rfl, rfl, rfl, rfl⟩ rfl rfl rfl rfl rfl (by kernel_rfl) Tryz.func3 (by kernel_rfl)
    (of_decide_eq_true (by kernel_rfl)) (by unfold Func.isWrapper; first | (rw [if_pos (by decide +kernel)]; kernel_rfl) | (rw [if_neg (by decide +kernel)]; exact ⟨rfl, rfl⟩))
    (fun os started H enc _ F => by rw [OpenClaim.pre_eq_preRow]; exact lifted os started H enc F)
set_option maxRecDepth 100000 in
theorem plain (f : FuncId) (fn : Func) (hf : Tryz.pinned.checked.prog.funcNamed "loop.example/g00343/laws.FnExactNewWorld" = some f) (hfn : Tryz.pinned.checked.prog.funcs[f]? = some fn) :
    true = Tryz.pinned.checked.prog.looks [] ∧ ∀ (j : Nat) t, fn.params[j]? = some t → Tryz.pinned.checked.prog.wantsStandIn t = false := by
  obtain rfl : f = 3 := Option.some.inj ((show Tryz.prog.funcNamed "loop.example/g00343/laws.FnExactNewWorld" = some 3 by kernel_rfl).symm.trans hf) |>.symm
  obtain rfl : fn = Tryz.f3 := (Option.some.inj (Tryz.func3.symm.trans hfn)).symm
  refine ⟨by kernel_rfl, fun j t ht => ?_⟩
  rw [Tryz.params3] at ht
  obtain rfl : t = 22 := by simpa using Array.mem_of_getElem? ht
  exact (show Tryz.prog.wantsStandIn 22 = false by kernel_rfl)
end NwL
theorem fnExactNewWorld_card : Rows.FnExactNewWorldCardSaid :=
  Claim7.holds_tied_plain_at .later [] _ _ _ _ NwL.said (fun _ h => by cases h) (by kernel_rfl) (fun _ h => by cases h) fnExactNewWorld_row_tie rfl ⟨rfl, rfl⟩ (by kernel_rfl) rfl NwL.plain (by kernel_rfl)
#print axioms fnExactNewWorld_card
end Go.Proofs.YtccklgopcjilcaaGreatDoor
