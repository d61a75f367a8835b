/- Laid together: EgI, EgJ. -/
import Derived.Test.YtccklgopcjilcaaGreatDoorJNW37
import Derived.Test.YtccklgopcjilcaaGreatDoorJNW40
import Derived.Test.YtccklgopcjilcaaGreatDoorJNW34
import Derived.Deep.RegionHeld3
/- EngineFault of the program. Condition: the table of rules lies as its initialiser lays it. -/
namespace Go.Proofs.YtccklgopcjilcaaGreatDoor
open Go.RowKit Go.Deep
set_option linter.unusedVariables false
namespace Eg
open St (StepD)
open Ei (InstD)
open En (EngD)
open Kc (chartC)
open Pf (pFault Rul implProcFault)
open Ex (inR hid)
set_option maxRecDepth 100000 in
set_option maxHeartbeats 2000000 in
theorem implHasProc (e : EngD) (vp vi : Value) (p : Int) (B : Nat) (w : World) (hs : e.procs.length ≤ 1048576) (ha : En.At w B vp vi e) :
    Calls Tryz.prog 182 #[.agg #[vp, vi, .int .i64 e.now], .int .i64 p] w fun z w' => z = .returned (.bool (hasP e p)) ∧ Below w.heap.size w w' := by
  obtain ⟨a1, k1, rfl⟩ := ha.procs.slice
  obtain ⟨a2, k2, rfl⟩ := ha.insts.slice
  have HB : Hid (Below w.heap.size w (w.alloc (.cells #[.slice a1 e.procs.length k1, .slice a2 e.insts.length k2, .int .i64 e.now] 27))) := hid ((Below.refl _ w).alloc (Nat.le_refl _) _)
  clear ha
  by_cases q : 0 ≤ p
  · have e1 : decide (0 ≤ p) = true := by simp [q]
    have HE := hid (show hasP e p = decide (p < (e.procs.length : Int)) by unfold hasP inR; rw [e1, Bool.true_and]; exact decide_eq_decide.2 (by omega))
    generalize hasP e p = z at *
    go_enter Tryz.func182, Tryz.ntmps182
    go_wp2
    go_ret
    exact ⟨by rw [HE.out]; rfl, HB.out⟩
  · have e1 : decide (0 ≤ p) = false := by simp [q]
    have HE := hid (show hasP e p = false by unfold hasP inR; rw [e1, Bool.false_and])
    generalize hasP e p = z at *
    go_enter Tryz.func182, Tryz.ntmps182
    go_wp2
    go_ret
    exact ⟨by rw [HE.out]; rfl, HB.out⟩
set_option maxRecDepth 100000 in
set_option maxHeartbeats 4000000 in
theorem implStepsOf (e : EngD) (vp vi : Value) (i : Nat) (B : Nat) (w : World) (hs : En.Small 1048576 e) (ha : En.At w B vp vi e) (hi : i < e.insts.length) (hp : hasP e e.insts[i].proc = true) :
    Calls Tryz.prog 73 #[.agg #[vp, vi, .int .i64 e.now], .int .i64 (i : Int)] w fun z w' => (∃ v, z = .returned v ∧ St.At w' B v (stepsD e e.insts[i].proc)) ∧ Below w.heap.size w w' := by
  obtain ⟨hp0, hp1, hp2⟩ := hasP_in hp
  have hl1 := hs.procs.1
  have hl2 := hs.insts.1
  rw [stepsD_eq hp1]
  obtain ⟨a1, k1, rfl⟩ := ha.procs.slice
  obtain ⟨a2, k2, rfl⟩ := ha.insts.slice
  obtain ⟨g, o, x1, x2, x3, ea, hg, c0, _, _, _, _, _, _⟩ := ha.insts.at hi
  cases ea
  obtain ⟨g2, o2, y1, ea, hg2, d0, hst⟩ := ha.procs.at hp1
  cases ea
  have t1 : (i : Int) < (e.insts.length : Int) := by omega
  obtain ⟨b1, l1, rfl⟩ := hst.slice
  have HST := hid hst
  generalize hpp : e.insts[i].proc = p at *
  clear ha hst hp hs hpp
  have hB : Below w.heap.size w (w.alloc (.cells #[.slice (some ⟨g2, o2, none⟩) e.procs.length k1, .slice (some ⟨g, o, none⟩) e.insts.length k2, .int .i64 e.now] 27)) := (Below.refl _ w).alloc (Nat.le_refl _) _
  go_enter Tryz.func73, Tryz.ntmps73
  go_wp2
  go_quiet (fail)
  go_wp2
  go_ret
  exact ⟨⟨_, rfl, HST.out.below (Nd.below_drewN hB nq)⟩, Nd.below_drewN hB nq⟩
set_option maxRecDepth 100000 in
set_option maxHeartbeats 8000000 in
theorem implInstFault (e : EngD) (vp vi : Value) (i : Nat) (w : World) (hs : En.Small 1048576 e) (ha : En.At w 0 vp vi e) (hr : Rul w) (hi : i < e.insts.length) :
    Calls Tryz.prog 146 #[.agg #[vp, vi, .int .i64 e.now], .int .i64 (i : Int)] w fun z w' => z = .returned (.int .i64 (instC e e.insts[i])) ∧ Below w.heap.size w w' := by
  obtain ⟨a1, k1, rfl⟩ := ha.procs.slice
  obtain ⟨a2, k2, rfl⟩ := ha.insts.slice
  have t1 : (i : Int) < (e.insts.length : Int) := by omega
  have hl1 := hs.procs.1
  obtain ⟨g, o, x1, x2, x3, rfl, hg, p0, p1, p2, p3, p4, p5, hc⟩ := ha.insts.at hi
  obtain ⟨b1, l1, rfl⟩ := hc.vars.slice
  obtain ⟨b2, l2, rfl⟩ := hc.marks.slice
  obtain ⟨b3, l3, rfl⟩ := hc.dues.slice
  obtain ⟨w1, e1⟩ : ∃ w1, w1 = (w.alloc (.cells #[.slice a1 e.procs.length k1, .slice (some ⟨g, o, none⟩) e.insts.length k2, .int .i64 e.now] 27)).alloc (.cells #[.int .i64 e.insts[i].proc, .int .i64 e.insts[i].chart.status, .int .i64 e.insts[i].chart.now, .slice b1 e.insts[i].chart.vars.length l1, .slice b2 e.insts[i].chart.marks.length l2, .slice b3 e.insts[i].chart.dues.length l3] 114) := ⟨_, rfl⟩
  have hb1 : Below w.heap.size w w1 := by rw [e1]; exact ((Below.refl _ w).alloc (Nat.le_refl _) _).alloc (by simp) _
  have k0 : w1.heap[w.heap.size]? = some (.cells #[.slice a1 e.procs.length k1, .slice (some ⟨g, o, none⟩) e.insts.length k2, .int .i64 e.now] 27) := by rw [e1, Below.heap_alloc _ _ _ (by simp), Ch.new_blk]
  have k9 : w1.heap[w.heap.size + 1]? = some (.cells #[.int .i64 e.insts[i].proc, .int .i64 e.insts[i].chart.status, .int .i64 e.insts[i].chart.now, .slice b1 e.insts[i].chart.vars.length l1, .slice b2 e.insts[i].chart.marks.length l2, .slice b3 e.insts[i].chart.dues.length l3] 114) := by rw [e1]; exact Ch.new_at (by simp) _
  have HH := hid (implHasProc e _ _ e.insts[i].proc 0 w1 (by omega) (ha.below hb1))
  have HA := hid (ha.below hb1)
  have HCA := hid (hc.below hb1)
  have HR := hid (hr.below hb1 hr.lt)
  have HB1 := hid hb1
  have HS0 := hid hs
  clear ha hr hb1 hc hs
  go_enter Tryz.func146, Tryz.ntmps146
  go_wp2_with fail
  rw [← e1]
  clear e1 p0 p1 p2 p3 p4 p5
  refine HH.out.mono ?_
  rintro z w2 ⟨rfl, hb2⟩
  have HB2 := hid (HB1.out.trans (hb2.mono HB1.out.size))
  have HK2 : Hid (w2.heap[w.heap.size]? = some (.cells #[.slice a1 e.procs.length k1, .slice (some ⟨g, o, none⟩) e.insts.length k2, .int .i64 e.now] 27) ∧ w2.heap[w.heap.size + 1]? = some (.cells #[.int .i64 e.insts[i].proc, .int .i64 e.insts[i].chart.status, .int .i64 e.insts[i].chart.now, .slice b1 e.insts[i].chart.vars.length l1, .slice b2 e.insts[i].chart.marks.length l2, .slice b3 e.insts[i].chart.dues.length l3] 114)) := hid ⟨(hb2.block _ (Ch.blk_lt k0)).trans k0, (hb2.block _ (Ch.blk_lt k9)).trans k9⟩
  have HA2 := hid (HA.out.below hb2)
  have HC2 := hid (HCA.out.below hb2)
  have HR2 := hid (HR.out.below hb2 HR.out.lt)
  clear hb2 k0 k9 HA HCA HR HH HB1
  cases hx : hasP e e.insts[i].proc
  · have HE := hid (i_range hx)
    go_wp2
    go_ret
    exact ⟨by rw [HE.out]; rfl, HB2.out⟩
  have HX := hid hx
  obtain ⟨hp0, hp1, hp2⟩ := hasP_in hx
  have hsm : St.Small 1048576 (stepsD e e.insts[i].proc) := by rw [stepsD_eq hp1]; exact HS0.out.procs.at hp1
  have HS := hid (fun w3 (hb : Below w2.heap.size w2 w3) => implStepsOf e _ _ i 0 w3 HS0.out (HA2.out.below hb) hi hx)
  have HC := hid (fun w3 (hb : Below w2.heap.size w2 w3) v (hv : St.At w3 0 v (stepsD e e.insts[i].proc)) => Kc.implChartFault _ e.insts[i].chart v _ _ _ w3 hsm (HS0.out.insts.at hi) hv (HC2.out.below hb) (HR2.out.below hb HR2.out.lt))
  have HI : Hid (∀ c, c = chartC (stepsD e e.insts[i].proc) e.insts[i].chart → instC e e.insts[i] = if c ≠ 0 then c else if e.insts[i].chart.now = e.now then 0 else 9) := hid (fun c hc => by rw [hc]; unfold instC; rw [if_pos hx])
  clear hx hp0 hp1 hp2 hsm
  generalize hcc : chartC (stepsD e e.insts[i].proc) e.insts[i].chart = cc at *
  have HI2 := hid (HI.out cc rfl)
  clear HI hcc
  have HKd : Hid (w2.drew.heap[w.heap.size]? = some (.cells #[.slice a1 e.procs.length k1, .slice (some ⟨g, o, none⟩) e.insts.length k2, .int .i64 e.now] 27) ∧ w2.drew.heap[w.heap.size + 1]? = some (.cells #[.int .i64 e.insts[i].proc, .int .i64 e.insts[i].chart.status, .int .i64 e.insts[i].chart.now, .slice b1 e.insts[i].chart.vars.length l1, .slice b2 e.insts[i].chart.marks.length l2, .slice b3 e.insts[i].chart.dues.length l3] 114)) := hid HK2.out
  go_wp2
  refine wp_region_held_drew (S := fun wx => wx.heap[w.heap.size]? = some (.cells #[.slice a1 e.procs.length k1, .slice (some ⟨g, o, none⟩) e.insts.length k2, .int .i64 e.now] 27) ∧ wx.heap[w.heap.size + 1]? = some (.cells #[.int .i64 e.insts[i].proc, .int .i64 e.insts[i].chart.status, .int .i64 e.insts[i].chart.now, .slice b1 e.insts[i].chart.vars.length l1, .slice b2 e.insts[i].chart.marks.length l2, .slice b3 e.insts[i].chart.dues.length l3] 114)) (by kernel_rfl) HKd.out (fun hHeld => ?_)
  refine wpAnyH_take (i := 0) (oi := { dst := some 17, op := Go.Op.load 27 (Go.Operand.tmp 2), type := 27, pos := "l11_engine.go:54", after := #[], guard := none }) (v := .agg #[.slice a1 e.procs.length k1, .slice (some ⟨g, o, none⟩) e.insts.length k2, .int .i64 e.now]) rfl (by kernel_rfl) (by kernel_rfl) (by kernel_rfl) (fun _ _ _ h => h) (Or.inl ⟨by rfl, by intro w hSw; (try dsimp only at hSw); obtain ⟨h1, h2⟩ := hSw; have m0 := Ch.blk_cell h1 0; have m1 := Ch.blk_cell h1 1; have m2 := Ch.blk_cell h1 2; clear h1 h2; go_simp⟩) (by assumption) ?_
  simp only [Act.put, List.setIfInBounds_toArray, List.set_cons_zero, List.set_cons_succ]
  refine wpAnyH_take (i := 1) (oi := { dst := some 18, op := Go.Op.move (Go.Operand.tmp 1), type := 2, pos := "l11_engine.go:54", after := #[], guard := none }) (v := .int .i64 (i : Int)) rfl (by kernel_rfl) (by kernel_rfl) (by kernel_rfl) (fun _ _ _ h => h) (Or.inl ⟨by rfl, by intro w hSw; (try dsimp only at hSw); go_simp⟩) (by assumption) ?_
  simp only [Act.put, List.setIfInBounds_toArray, List.set_cons_zero, List.set_cons_succ]
  refine wpAnyH_take (i := 3) (oi := { dst := some 20, op := Go.Op.fieldAddr 114 (Go.Operand.tmp 5) 1, type := 0, pos := "l11_engine.go:54", after := #[], guard := none }) (v := .pointer (some ⟨w.heap.size + 1, 1, none⟩)) rfl (by kernel_rfl) (by kernel_rfl) (by kernel_rfl) (fun _ _ _ h => h) (Or.inl ⟨by rfl, by intro w hSw; (try dsimp only at hSw); go_simp⟩) (by assumption) ?_
  simp only [Act.put, List.setIfInBounds_toArray, List.set_cons_zero, List.set_cons_succ]
  refine wpAnyH_take (i := 4) (oi := { dst := some 21, op := Go.Op.load 112 (Go.Operand.tmp 20), type := 112, pos := "l11_engine.go:54", after := #[{ on := 3, ground := Go.Ground.data }], guard := none }) (v := .agg #[.int .i64 e.insts[i].chart.status, .int .i64 e.insts[i].chart.now, .slice b1 e.insts[i].chart.vars.length l1, .slice b2 e.insts[i].chart.marks.length l2, .slice b3 e.insts[i].chart.dues.length l3]) rfl (by kernel_rfl) (by kernel_rfl) (by kernel_rfl) (fun _ _ _ h => h) (Or.inl ⟨by rfl, by intro w hSw; (try dsimp only at hSw); obtain ⟨h1, h2⟩ := hSw; have m0 := Ch.blk_cell h2 0; have m1 := Ch.blk_cell h2 1; have m2 := Ch.blk_cell h2 2; have m3 := Ch.blk_cell h2 3; have m4 := Ch.blk_cell h2 4; have m5 := Ch.blk_cell h2 5; clear h1 h2; go_simp⟩) (by assumption) ?_
  simp only [Act.put, List.setIfInBounds_toArray, List.set_cons_zero, List.set_cons_succ]
  refine wpAnyH_ready (rs := [2]) (by kernel_rfl) (by simp) ?_
  refine AllReadyH.cons (o := { dst := some 19, op := Go.Op.call { callee := Go.Callee.value (Go.Operand.func 73), args := #[Go.Operand.tmp 17, Go.Operand.tmp 18], argTypes := #[27, 2] }, type := 87, pos := "l11_engine.go:54", after := #[{ on := 0, ground := Go.Ground.data }, { on := 1, ground := Go.Ground.data }], guard := none }) rfl (fun K hK => ?_) AllReadyH.nil
  go_simp
  go_at_call 73
  refine (HS.out _ (Below.refl w2.heap.size w2).drew).mono ?_
  rintro z w3 ⟨⟨v, rfl, hv⟩, hb3⟩
  obtain ⟨c3, d3, rfl⟩ := hv.slice
  have HV := hid hv
  have hb3 := ((Below.refl w2.heap.size w2).drew).trans (hb3.mono (Below.refl w2.heap.size w2).drew.size)
  have HK3 : Hid (w3.heap[w.heap.size]? = some (.cells #[.slice a1 e.procs.length k1, .slice (some ⟨g, o, none⟩) e.insts.length k2, .int .i64 e.now] 27) ∧ w3.heap[w.heap.size + 1]? = some (.cells #[.int .i64 e.insts[i].proc, .int .i64 e.insts[i].chart.status, .int .i64 e.insts[i].chart.now, .slice b1 e.insts[i].chart.vars.length l1, .slice b2 e.insts[i].chart.marks.length l2, .slice b3 e.insts[i].chart.dues.length l3] 114)) := hid ⟨(hb3.block _ (Ch.blk_lt HK2.out.1)).trans HK2.out.1, (hb3.block _ (Ch.blk_lt HK2.out.2)).trans HK2.out.2⟩
  have HB3 := hid hb3
  clear hv hb3
  go_wp2_with fail
  refine hK.out _ _ HK3.out (fun hHeld => ?_)
  clear hK K
  try simp only [Act.put, List.setIfInBounds_toArray, List.set_cons_zero, List.set_cons_succ]
  refine wpAnyH_ready (rs := [5]) (by kernel_rfl) (by simp) ?_
  refine AllReadyH.cons (o := { dst := some 22, op := Go.Op.call { callee := Go.Callee.value (Go.Operand.func 183), args := #[Go.Operand.tmp 19, Go.Operand.tmp 21], argTypes := #[87, 112] }, type := 2, pos := "l11_engine.go:54", after := #[{ on := 2, ground := Go.Ground.data }, { on := 4, ground := Go.Ground.data }, { on := 2, ground := Go.Ground.chain }], guard := none }) rfl (fun K hK => ?_) AllReadyH.nil
  go_simp
  go_at_call 183
  refine (HC.out w3 HB3.out _ HV.out).mono ?_
  rintro z w4 ⟨rfl, hb4⟩
  have HK4 : Hid (w4.heap[w.heap.size]? = some (.cells #[.slice a1 e.procs.length k1, .slice (some ⟨g, o, none⟩) e.insts.length k2, .int .i64 e.now] 27) ∧ w4.heap[w.heap.size + 1]? = some (.cells #[.int .i64 e.insts[i].proc, .int .i64 e.insts[i].chart.status, .int .i64 e.insts[i].chart.now, .slice b1 e.insts[i].chart.vars.length l1, .slice b2 e.insts[i].chart.marks.length l2, .slice b3 e.insts[i].chart.dues.length l3] 114)) := hid ⟨(hb4.block _ (Ch.blk_lt HK3.out.1)).trans HK3.out.1, (hb4.block _ (Ch.blk_lt HK3.out.2)).trans HK3.out.2⟩
  have HB4 := hid (HB3.out.trans (hb4.mono HB3.out.size))
  clear hb4
  go_wp2_with fail
  refine hK.out _ _ HK4.out (fun hHeld => ?_)
  clear hK K
  try simp only [Act.put, List.setIfInBounds_toArray, List.set_cons_zero, List.set_cons_succ]
  refine wpAnyH_take (i := 6) (oi := { dst := some 6, op := Go.Op.assign (Go.Operand.tmp 22), type := 2, pos := "l11_engine.go:54", after := #[{ on := 5, ground := Go.Ground.data }, { on := 5, ground := Go.Ground.chain }, { on := 0, ground := Go.Ground.phase }, { on := 1, ground := Go.Ground.phase }, { on := 2, ground := Go.Ground.phase }, { on := 3, ground := Go.Ground.phase }, { on := 4, ground := Go.Ground.phase }, { on := 5, ground := Go.Ground.phase }], guard := none }) (v := .int .i64 cc) rfl (by kernel_rfl) (by kernel_rfl) (by kernel_rfl) (fun _ _ _ h => h) (Or.inl ⟨by rfl, by intro w hSw; (try dsimp only at hSw); go_simp⟩) (by assumption) ?_
  simp only [Act.put, List.setIfInBounds_toArray, List.set_cons_zero, List.set_cons_succ]
  refine wpAnyH_done (by kernel_rfl) ?_ _
  have k4 := HK4.out
  have m2 := Ch.blk_cell k4.2 2
  have m3 := Ch.blk_cell k4.1 2
  have lk1 := Ch.blk_lt k4.1
  have lk2 := Ch.blk_lt k4.2
  replace m2 : w4.cell? ⟨w.heap.size + 1, 2, none⟩ = some (.int .i64 e.insts[i].chart.now) := m2
  replace m3 : w4.cell? ⟨w.heap.size, 2, none⟩ = some (.int .i64 e.now) := m3
  have HBZ := hid (HB2.out.trans (HB4.out.mono HB2.out.size))
  clear hHeld HK2 HK3 HK4 HKd HS HC HV HB3 HB4 k4 HA2 HC2 HR2 HB2 HX
  by_cases hz : cc = 0
  · subst hz
    rw [if_neg (by simp)] at HI2
    have b0 : ((0 : Int) != 0) = false := rfl
    cases hn : (e.insts[i].chart.now == e.now)
    · have HE : Hid (instC e e.insts[i] = 9) := hid (by rw [HI2.out, if_neg (by simpa using hn)])
      have b1 : (e.insts[i].chart.now != e.now) = true := by rw [bne, hn]; rfl
      clear HI2 hn
      go_wp2
      go_ret
      exact ⟨by rw [HE.out]; rfl, HBZ.out⟩
    · have HE : Hid (instC e e.insts[i] = 0) := hid (by rw [HI2.out, if_pos (by simpa using hn)])
      have b1 : (e.insts[i].chart.now != e.now) = false := by rw [bne, hn]; rfl
      clear HI2 hn
      go_wp2
      go_ret
      exact ⟨by rw [HE.out]; rfl, HBZ.out⟩
  · have b0 : (cc != 0) = true := bne_iff_ne.2 hz
    have HE : Hid (instC e e.insts[i] = cc) := hid (by rw [HI2.out, if_pos hz])
    clear HI2 hz
    go_wp2
    go_ret
    exact ⟨by rw [HE.out]; rfl, HBZ.out⟩
end Eg
end Go.Proofs.YtccklgopcjilcaaGreatDoor
/- EngineFault of the program, whole. Condition: the table of rules lies as its initialiser lays it. -/
namespace Go.Proofs.YtccklgopcjilcaaGreatDoor
open Go.RowKit Go.Deep
set_option linter.unusedVariables false
namespace Eg
open St (StepD)
open Ei (InstD)
open En (EngD)
open Kc (chartC)
open Pf (pFault Rul implProcFault)
open Ex (inR hid)
set_option maxRecDepth 100000 in
set_option maxHeartbeats 8000000 in
theorem implEngineFault (e : EngD) (vp vi : Value) (w : World) (hs : En.Small 1048576 e) (ha : En.At w 0 vp vi e) (hr : Rul w) :
    Calls Tryz.prog 99 #[.agg #[vp, vi, .int .i64 e.now]] w fun z w' => z = .returned (.int .i64 (engC e)) ∧ Below w.heap.size w w' := by
  obtain ⟨a1, k1, rfl⟩ := ha.procs.slice
  obtain ⟨a2, k2, rfl⟩ := ha.insts.slice
  have hl1 := hs.procs.1
  have hl2 := hs.insts.1
  have HB : Hid (Below w.heap.size w (w.alloc (.cells #[.slice a1 e.procs.length k1, .slice a2 e.insts.length k2, .int .i64 e.now] 27))) := hid ((Below.refl _ w).alloc (Nat.le_refl _) _)
  by_cases q1 : (e.procs.length : Int) < 1
  · have HE := hid (e_many (e := e) (by omega))
    clear hs ha hr
    go_enter Tryz.func99, Tryz.ntmps99
    go_wp2
    go_ret
    exact ⟨by rw [HE.out]; rfl, HB.out⟩
  by_cases q2 : 3 < (e.procs.length : Int)
  · have HE := hid (e_many (e := e) (by omega))
    clear hs ha hr
    go_enter Tryz.func99, Tryz.ntmps99
    go_wp2
    go_ret
    exact ⟨by rw [HE.out]; rfl, HB.out⟩
  by_cases q3 : 6 < (e.insts.length : Int)
  · have HE := hid (e_many (e := e) (by omega))
    clear hs ha hr
    go_enter Tryz.func99, Tryz.ntmps99
    go_wp2
    go_ret
    exact ⟨by rw [HE.out]; rfl, HB.out⟩
  obtain ⟨w0, e0⟩ : ∃ w0, w0 = w.alloc (.cells #[.slice a1 e.procs.length k1, .slice a2 e.insts.length k2, .int .i64 e.now] 27) := ⟨_, rfl⟩
  rw [← e0] at HB
  have HA := hid (ha.below HB.out)
  have HR := hid (hr.below HB.out hr.lt)
  have HK : Hid (w0.heap[w.heap.size]? = some (.cells #[.slice a1 e.procs.length k1, .slice a2 e.insts.length k2, .int .i64 e.now] 27)) := hid (by rw [e0]; exact Ch.new_blk _ _)
  have HS0 := hid hs
  have HP0 := hid (p_few (ps := e.procs) (by omega))
  have HI0 := hid (show ¬ 6 < e.insts.length by omega)
  clear hs ha hr
  go_enter Tryz.func99, Tryz.ntmps99
  go_wp2_with fail
  rw [← e0]
  clear e0 q1 q2 q3
  go_loopw [27, 4, 5] (fun x _ _ wr => ∃ k : Nat, x = .int .i64 k ∧ k ≤ e.procs.length ∧ Hid (procsC e.procs = firstNZ pFault (e.procs.drop k)) ∧ Hid (Below w0.heap.size w0 wr)) (fun x _ _ _ => e.procs.length - (intOf x).toNat)
  case atStart => exact ⟨0, rfl, Nat.zero_le _, HP0, hid (Below.refl _ _)⟩
  case round =>
    obtain ⟨k, rfl, hk, HP, HBR⟩ := hrel
    by_cases hlt : k < e.procs.length
    · obtain ⟨g, o, x1, rfl, hg, p0, hst⟩ := (HA.out.below HBR.out).procs.at hlt
      have t1 : (k : Int) < (e.procs.length : Int) := by omega
      obtain ⟨b1, l1, rfl⟩ := hst.slice
      obtain ⟨w2, e2⟩ : ∃ w2, w2 = wr.alloc (.cells #[.slice b1 e.procs[k].length l1] 89) := ⟨_, rfl⟩
      have hb2 : Below wr.heap.size wr w2 := by rw [e2]; exact (Below.refl _ wr).alloc (Nat.le_refl _) _
      have hrr := HR.out.below HBR.out HR.out.lt
      have HC := hid (implProcFault e.procs[k] _ w2 (HS0.out.procs.at hlt) (hst.below hb2) (hrr.below hb2 hrr.lt))
      have HB2 := hid (HBR.out.trans (hb2.mono HBR.out.size))
      clear hst hb2 hrr
      go_wp2_with fail
      rw [← e2]
      clear e2
      refine HC.out.mono ?_
      rintro z w3 ⟨rfl, hb3⟩
      have HB3 := hid (HB2.out.trans (hb3.mono HB2.out.size))
      clear hb3 HC HB2
      by_cases hz : pFault e.procs[k] = 0
      · have HN : Hid (procsC e.procs = firstNZ pFault (e.procs.drop (k + 1))) := hid (by rw [HP.out, nz_next hlt hz])
        rw [hz]
        have b0 : ((0 : Int) != 0) = false := rfl
        clear hz HP
        go_wp2
        exact ⟨⟨k + 1, by simp, by omega, HN, HB3⟩, by simp [intOf]; omega⟩
      · have HN : Hid (engC e = pFault e.procs[k]) := hid (by
          have h1 : procsC e.procs = pFault e.procs[k] := by rw [HP.out, nz_bad hlt hz]
          rw [e_proc HI0.out (by rw [h1]; exact hz), h1])
        have b0 : (pFault e.procs[k] != 0) = true := bne_iff_ne.2 hz
        generalize pFault e.procs[k] = pc at *
        clear hz HP
        go_wp2
        go_ret
        exact ⟨by rw [HN.out]; rfl, HB.out.trans (HB3.out.mono HB.out.size)⟩
    · have HPZ : Hid (procsC e.procs = 0) := hid (by rw [HP.out, nz_end (by omega)])
      have hk1 := (HBR.out.block _ (Ch.blk_lt HK.out)).trans HK.out
      have m2 := Ch.blk_cell hk1 2
      have lk := Ch.blk_lt hk1
      replace m2 : wr.cell? ⟨w.heap.size, 2, none⟩ = some (.int .i64 e.now) := m2
      have HT := hid (fun w' => Kc.isTime e.now w')
      have m1 := Ch.blk_cell hk1 1
      replace m1 : wr.cell? ⟨w.heap.size, 1, none⟩ = some (.slice a2 e.insts.length k2) := m1
      clear HP HP0 hk1
      go_wp2_with fail
      refine (HT.out _).mono ?_
      rintro z w3 ⟨rfl, hw3⟩
      replace hw3 := hw3.symm
      subst hw3
      cases hx : inR e.now 0 1000000
      · have HE := hid (e_now HI0.out HPZ.out hx)
        clear hx
        go_wp2
        go_ret
        exact ⟨by rw [HE.out]; rfl, HB.out.trans (HBR.out.mono HB.out.size)⟩
      have HE := hid (e_inst HI0.out HPZ.out hx)
      clear hx HPZ HI0 HT
      go_wp2_with fail
      clear hlt hk m1 m2 lk
      go_loopw [45, 6, 7] (fun x _ _ wr => ∃ k : Nat, x = .int .i64 k ∧ k ≤ e.insts.length ∧ Hid (engC e = firstNZ (instC e) (e.insts.drop k)) ∧ Hid (Below w0.heap.size w0 wr)) (fun x _ _ _ => e.insts.length - (intOf x).toNat)
      case atStart => exact ⟨0, rfl, Nat.zero_le _, HE, HBR⟩
      case round =>
        clear HBR HE
        obtain ⟨k, rfl, hk, HE, HBR⟩ := hrel
        have hk1 := (HBR.out.block _ (Ch.blk_lt HK.out)).trans HK.out
        by_cases hlt : k < e.insts.length
        · have t1 : (k : Int) < (e.insts.length : Int) := by omega
          have m0 := Ch.blk_cell hk1 0
          have m1 := Ch.blk_cell hk1 1
          have m2 := Ch.blk_cell hk1 2
          have lk := Ch.blk_lt hk1
          replace m0 : wr.cell? ⟨w.heap.size, 0, none⟩ = some (.slice a1 e.procs.length k1) := m0
          replace m1 : wr.cell? ⟨w.heap.size, 1, none⟩ = some (.slice a2 e.insts.length k2) := m1
          replace m2 : wr.cell? ⟨w.heap.size, 2, none⟩ = some (.int .i64 e.now) := m2
          have HC := hid (implInstFault e _ _ k wr HS0.out (HA.out.below HBR.out) (HR.out.below HBR.out HR.out.lt) hlt)
          clear hk1
          go_wp2_with fail
          refine HC.out.mono ?_
          rintro z w3 ⟨rfl, hb3⟩
          have HB3 := hid (HBR.out.trans (hb3.mono HBR.out.size))
          clear hb3 HC m0 m1 m2 lk
          by_cases hz : instC e e.insts[k] = 0
          · have HN : Hid (engC e = firstNZ (instC e) (e.insts.drop (k + 1))) := hid (by rw [HE.out, nz_next hlt hz])
            rw [hz]
            have b0 : ((0 : Int) != 0) = false := rfl
            clear hz HE
            go_wp2
            exact ⟨⟨k + 1, by simp, by omega, HN, HB3⟩, by simp [intOf]; omega⟩
          · have HN : Hid (engC e = instC e e.insts[k]) := hid (by rw [HE.out, nz_bad hlt hz])
            have b0 : (instC e e.insts[k] != 0) = true := bne_iff_ne.2 hz
            generalize instC e e.insts[k] = pc at *
            clear hz HE
            go_wp2
            go_ret
            exact ⟨by rw [HN.out]; rfl, HB.out.trans (HB3.out.mono HB.out.size)⟩
        · have HZ : Hid (engC e = 0) := hid (by rw [HE.out, nz_end (by omega)])
          clear HE hk1
          go_wp2
          go_ret
          exact ⟨by rw [HZ.out]; rfl, HB.out.trans (HBR.out.mono HB.out.size)⟩
end Eg
end Go.Proofs.YtccklgopcjilcaaGreatDoor
