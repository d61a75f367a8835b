/- Laid together: KfO, NdQ, EgI. -/
import Derived.Test.YtpmlialjoonpeaaGreatDoorJEF45
import Derived.Test.YtpmlialjoonpeaaGreatDoorJEF36
import Derived.Test.YtpmlialjoonpeaaGreatDoorJEF1
import Derived.Laws.StructEq
import Derived.Test.YtpmlialjoonpeaaGreatDoorJEF40
import Derived.Test.YtpmlialjoonpeaaGreatDoorJEF35
import Derived.Deep.RegionHeld3
/- ChartFault and OpenSteps of the program. Condition: the table of rules lies as its initialiser lays it. -/
namespace Go.Proofs.YtpmlialjoonpeaaGreatDoor
open Go.RowKit Go.Deep
set_option linter.unusedVariables false
set_option linter.unusedSimpArgs false
namespace Kc
open Ex (inR evalCode evalVal vFault hid)
open St (StepD)
open Ch (RunD)
open Pf
open Pt (kidVals)
def openN (ss : List StepD) (A : Nat → Int) (n : Nat) : List Nat := (List.range n).filter fun i => leafK (PJ ss i).kind && (A i == 1)
theorem openN_succ (ss : List StepD) (A : Nat → Int) (n : Nat) : openN ss A (n + 1) = openN ss A n ++ (if (leafK (PJ ss n).kind && (A n == 1)) = true then [n] else []) := by
  unfold openN
  rw [List.range_succ, List.filter_append]
  simp [List.filter_cons]
theorem openN_le (ss : List StepD) (A : Nat → Int) (n : Nat) : (openN ss A n).length ≤ n := by
  unfold openN
  have := List.length_filter_le (fun i => leafK (PJ ss i).kind && (A i == 1)) (List.range n)
  simpa using this
def openL (ss : List StepD) (r : RunD) : List Int := if chartC ss r = 0 then intsOf (openN ss (fA r) ss.length) else []
theorem open_ok {ss : List StepD} {r : RunD} (h : chartC ss r = 0) : openL ss r = intsOf (openN ss (fA r) ss.length) := by unfold openL; rw [if_pos h]
theorem open_bad {ss : List StepD} {r : RunD} (h : chartC ss r ≠ 0) : openL ss r = [] := by unfold openL; rw [if_neg h]
theorem openL_len {ss : List StepD} {r : RunD} : (openL ss r).length ≤ ss.length := by
  unfold openL
  split
  · rw [intsOf_len]; exact openN_le _ _ _
  · exact Nat.zero_le _
set_option maxRecDepth 100000 in
set_option maxHeartbeats 4000000 in
theorem implChartFault (ss : List StepD) (r : RunD) (v v1 v2 v3 : Value) (w : World) (hsm : St.Small 1048576 ss) (hs : Ch.Small 1048576 r) (ha : St.At w 0 v ss) (hc : Ch.At w 0 v1 v2 v3 r) (hr : Rul w) :
    Calls Tryz.prog 80 #[v, .agg #[.int .i64 r.status, .int .i64 r.now, v1, v2, v3]] w fun e w' => e = .returned (.int .i64 (chartC ss r)) ∧ Below w.heap.size w w' := by
  obtain ⟨a, cap, rfl⟩ := ha.slice
  obtain ⟨a1, c1, rfl⟩ := hc.vars.slice
  obtain ⟨a2, c2, rfl⟩ := hc.marks.slice
  obtain ⟨a3, c3, rfl⟩ := hc.dues.slice
  obtain ⟨w0, e0⟩ : ∃ w0, w0 = w.alloc (.cells #[.int .i64 r.status, .int .i64 r.now, .slice a1 r.vars.length c1, .slice a2 r.marks.length c2, .slice a3 r.dues.length c3] 82) := ⟨_, rfl⟩
  have hb0 : Below w.heap.size w w0 := by rw [e0]; exact (Below.refl _ w).alloc (Nat.le_refl _) _
  have HF := hid (courseOf ss r _ _ _ _ w0 hsm hs (ha.below hb0) (hc.below hb0) (hr.below hb0 hr.lt))
  have HB0 := hid hb0
  clear ha hc hsm hr hs hb0
  go_enter Tryz.func80, Tryz.ntmps80
  go_wp2_with fail
  rw [← e0]
  refine HF.out.mono ?_
  rintro e w1 ⟨h1, hb1⟩
  have hB1 := HB0.out.trans (hb1.mono HB0.out.size)
  rcases h1 with ⟨hne, rfl⟩ | ⟨hz, wg, R, u, rfl, hk, hle⟩
  · clear hne
    go_wp2
    go_ret
    exact ⟨rfl, hB1⟩
  · have HZ := hid hz
    clear hz hk
    go_wp2
    go_ret
    exact ⟨by rw [HZ.out]; rfl, hB1⟩
end Kc
end Go.Proofs.YtpmlialjoonpeaaGreatDoor
/- Two nodes held against each other. -/
namespace Go.Proofs.YtpmlialjoonpeaaGreatDoor
open Go.RowKit
set_option linter.unusedVariables false
namespace Nd
def nodeEq (a b : NodeD) : Bool := a.kind == b.kind && a.value == b.value && a.left == b.left && a.right == b.right
theorem nodeEq_self (a : NodeD) : nodeEq a a = true := by simp [nodeEq]
theorem nd_under : Tryz.prog.underlying 169 = some (.struct (Tryz.prog.fieldsOf 169)) := by kernel_rfl
theorem nd_stood : Tryz.prog.stoodInHeld 169 = false := by kernel_rfl
theorem nd_guard : Tryz.prog.eqGuardType Tryz.prog.depth 169 = false := by kernel_rfl
set_option maxRecDepth 100000 in
theorem nd_fields : ∃ f0 f1 f2 f3 : Field, (Tryz.prog.fieldsOf 169).toList = [f0, f1, f2, f3] ∧ f0.name = "Kind" ∧ f0.type = 2 ∧ f0.offset = 0 ∧ f1.name = "Value" ∧ f1.type = 2 ∧ f1.offset = 1 ∧ f2.name = "Left" ∧ f2.type = 2 ∧ f2.offset = 2 ∧ f3.name = "Right" ∧ f3.type = 2 ∧ f3.offset = 3 := ⟨_, _, _, _, rfl, rfl, rfl, rfl, rfl, rfl, rfl, rfl, rfl, rfl, rfl, rfl, rfl⟩
set_option maxRecDepth 100000 in
/-- Two nodes held against each other. -/
theorem neqNode (a b : NodeD) (w : World) : Sem.run Tryz.prog (binOp .neq 169 (.agg #[.int .i64 a.kind, .int .i64 a.value, .int .i64 a.left, .int .i64 a.right]) (.agg #[.int .i64 b.kind, .int .i64 b.value, .int .i64 b.left, .int .i64 b.right])) w = .ok (.bool (!nodeEq a b)) w := by
  obtain ⟨f0, f1, f2, f3, hf, h1, h2, h3, h4, h5, h6, h7, h8, h9, h10, h11, h12⟩ := nd_fields
  rw [run_neq_struct, run_equalIn_struct w 9999 169 _ _ nd_under nd_stood, hf]
  have p0 : ∀ (x y z u : Value) (w : World), (part 2 #[x, y, z, u] 0).run Tryz.prog w = .ok x w := fun x y z u w => by kernel_rfl
  have p1 : ∀ (x y z u : Value) (w : World), (part 2 #[x, y, z, u] 1).run Tryz.prog w = .ok y w := fun x y z u w => by kernel_rfl
  have p2 : ∀ (x y z u : Value) (w : World), (part 2 #[x, y, z, u] 2).run Tryz.prog w = .ok z w := fun x y z u w => by kernel_rfl
  have p3 : ∀ (x y z u : Value) (w : World), (part 2 #[x, y, z, u] 3).run Tryz.prog w = .ok u w := fun x y z u w => by kernel_rfl
  simp only [Op.eqFields, h1, h2, h3, h4, h5, h6, h7, h8, h9, h10, h11, h12, Sem.run_bind, Sem.run_ite, p0, p1, p2, p3, Result.andThen_ok, run_equalIn_int w 9998 2 _ _ _ _ Tryz.underlying2]
  rw [if_pos (show "Kind" ≠ "_" by decide), if_pos (show "Value" ≠ "_" by decide), if_pos (show "Left" ≠ "_" by decide), if_pos (show "Right" ≠ "_" by decide)]
  unfold nodeEq
  cases a.kind == b.kind <;> cases a.value == b.value <;> cases a.left == b.left <;> cases a.right == b.right <;> rfl
theorem below_drewN {B : Nat} {a w : World} (h : Below B a w) (n : Nat) : Below B a (w.drewN n) := ⟨h.os, h.tape, h.output, h.size, h.block⟩
end Nd
end Go.Proofs.YtpmlialjoonpeaaGreatDoor
/- EngineFault of the program. Condition: the table of rules lies as its initialiser lays it. -/
namespace Go.Proofs.YtpmlialjoonpeaaGreatDoor
open Go.RowKit Go.Deep
set_option linter.unusedVariables false
namespace Eg
open St (StepD)
open Ei (InstD)
open En (EngD)
open Kc (chartC)
open Pf (pFault Rul implProcFault)
open Ex (inR hid)
set_option maxRecDepth 100000 in
set_option maxHeartbeats 2000000 in
theorem implHasProc (e : EngD) (vp vi : Value) (p : Int) (B : Nat) (w : World) (hs : e.procs.length ≤ 1048576) (ha : En.At w B vp vi e) :
    Calls Tryz.prog 57 #[.agg #[vp, vi, .int .i64 e.now], .int .i64 p] w fun z w' => z = .returned (.bool (hasP e p)) ∧ Below w.heap.size w w' := by
  obtain ⟨a1, k1, rfl⟩ := ha.procs.slice
  obtain ⟨a2, k2, rfl⟩ := ha.insts.slice
  have HB : Hid (Below w.heap.size w (w.alloc (.cells #[.slice a1 e.procs.length k1, .slice a2 e.insts.length k2, .int .i64 e.now] 31))) := hid ((Below.refl _ w).alloc (Nat.le_refl _) _)
  clear ha
  by_cases q : 0 ≤ p
  · have e1 : decide (0 ≤ p) = true := by simp [q]
    have HE := hid (show hasP e p = decide (p < (e.procs.length : Int)) by unfold hasP inR; rw [e1, Bool.true_and]; exact decide_eq_decide.2 (by omega))
    generalize hasP e p = z at *
    go_enter Tryz.func57, Tryz.ntmps57
    go_wp2
    go_ret
    exact ⟨by rw [HE.out]; rfl, HB.out⟩
  · have e1 : decide (0 ≤ p) = false := by simp [q]
    have HE := hid (show hasP e p = false by unfold hasP inR; rw [e1, Bool.false_and])
    generalize hasP e p = z at *
    go_enter Tryz.func57, Tryz.ntmps57
    go_wp2
    go_ret
    exact ⟨by rw [HE.out]; rfl, HB.out⟩
set_option maxRecDepth 100000 in
set_option maxHeartbeats 4000000 in
theorem implStepsOf (e : EngD) (vp vi : Value) (i : Nat) (B : Nat) (w : World) (hs : En.Small 1048576 e) (ha : En.At w B vp vi e) (hi : i < e.insts.length) (hp : hasP e e.insts[i].proc = true) :
    Calls Tryz.prog 66 #[.agg #[vp, vi, .int .i64 e.now], .int .i64 (i : Int)] w fun z w' => (∃ v, z = .returned v ∧ St.At w' B v (stepsD e e.insts[i].proc)) ∧ Below w.heap.size w w' := by
  obtain ⟨hp0, hp1, hp2⟩ := hasP_in hp
  have hl1 := hs.procs.1
  have hl2 := hs.insts.1
  rw [stepsD_eq hp1]
  obtain ⟨a1, k1, rfl⟩ := ha.procs.slice
  obtain ⟨a2, k2, rfl⟩ := ha.insts.slice
  obtain ⟨g, o, x1, x2, x3, ea, hg, c0, _, _, _, _, _, _⟩ := ha.insts.at hi
  cases ea
  obtain ⟨g2, o2, y1, ea, hg2, d0, hst⟩ := ha.procs.at hp1
  cases ea
  have t1 : (i : Int) < (e.insts.length : Int) := by omega
  obtain ⟨b1, l1, rfl⟩ := hst.slice
  have HST := hid hst
  generalize hpp : e.insts[i].proc = p at *
  clear ha hst hp hs hpp
  have hB : Below w.heap.size w (w.alloc (.cells #[.slice (some ⟨g2, o2, none⟩) e.procs.length k1, .slice (some ⟨g, o, none⟩) e.insts.length k2, .int .i64 e.now] 31)) := (Below.refl _ w).alloc (Nat.le_refl _) _
  go_enter Tryz.func66, Tryz.ntmps66
  go_wp2
  go_quiet (fail)
  go_wp2
  go_ret
  exact ⟨⟨_, rfl, HST.out.below (Nd.below_drewN hB nq)⟩, Nd.below_drewN hB nq⟩
set_option maxRecDepth 100000 in
set_option maxHeartbeats 8000000 in
theorem implInstFault (e : EngD) (vp vi : Value) (i : Nat) (w : World) (hs : En.Small 1048576 e) (ha : En.At w 0 vp vi e) (hr : Rul w) (hi : i < e.insts.length) :
    Calls Tryz.prog 43 #[.agg #[vp, vi, .int .i64 e.now], .int .i64 (i : Int)] w fun z w' => z = .returned (.int .i64 (instC e e.insts[i])) ∧ Below w.heap.size w w' := by
  obtain ⟨a1, k1, rfl⟩ := ha.procs.slice
  obtain ⟨a2, k2, rfl⟩ := ha.insts.slice
  have t1 : (i : Int) < (e.insts.length : Int) := by omega
  have hl1 := hs.procs.1
  obtain ⟨g, o, x1, x2, x3, rfl, hg, p0, p1, p2, p3, p4, p5, hc⟩ := ha.insts.at hi
  obtain ⟨b1, l1, rfl⟩ := hc.vars.slice
  obtain ⟨b2, l2, rfl⟩ := hc.marks.slice
  obtain ⟨b3, l3, rfl⟩ := hc.dues.slice
  obtain ⟨w1, e1⟩ : ∃ w1, w1 = (w.alloc (.cells #[.slice a1 e.procs.length k1, .slice (some ⟨g, o, none⟩) e.insts.length k2, .int .i64 e.now] 31)).alloc (.cells #[.int .i64 e.insts[i].proc, .int .i64 e.insts[i].chart.status, .int .i64 e.insts[i].chart.now, .slice b1 e.insts[i].chart.vars.length l1, .slice b2 e.insts[i].chart.marks.length l2, .slice b3 e.insts[i].chart.dues.length l3] 87) := ⟨_, rfl⟩
  have hb1 : Below w.heap.size w w1 := by rw [e1]; exact ((Below.refl _ w).alloc (Nat.le_refl _) _).alloc (by simp) _
  have k0 : w1.heap[w.heap.size]? = some (.cells #[.slice a1 e.procs.length k1, .slice (some ⟨g, o, none⟩) e.insts.length k2, .int .i64 e.now] 31) := by rw [e1, Below.heap_alloc _ _ _ (by simp), Ch.new_blk]
  have k9 : w1.heap[w.heap.size + 1]? = some (.cells #[.int .i64 e.insts[i].proc, .int .i64 e.insts[i].chart.status, .int .i64 e.insts[i].chart.now, .slice b1 e.insts[i].chart.vars.length l1, .slice b2 e.insts[i].chart.marks.length l2, .slice b3 e.insts[i].chart.dues.length l3] 87) := by rw [e1]; exact Ch.new_at (by simp) _
  have HH := hid (implHasProc e _ _ e.insts[i].proc 0 w1 (by omega) (ha.below hb1))
  have HA := hid (ha.below hb1)
  have HCA := hid (hc.below hb1)
  have HR := hid (hr.below hb1 hr.lt)
  have HB1 := hid hb1
  have HS0 := hid hs
  clear ha hr hb1 hc hs
  go_enter Tryz.func43, Tryz.ntmps43
  go_wp2_with fail
  rw [← e1]
  clear e1 p0 p1 p2 p3 p4 p5
  refine HH.out.mono ?_
  rintro z w2 ⟨rfl, hb2⟩
  have HB2 := hid (HB1.out.trans (hb2.mono HB1.out.size))
  have HK2 : Hid (w2.heap[w.heap.size]? = some (.cells #[.slice a1 e.procs.length k1, .slice (some ⟨g, o, none⟩) e.insts.length k2, .int .i64 e.now] 31) ∧ w2.heap[w.heap.size + 1]? = some (.cells #[.int .i64 e.insts[i].proc, .int .i64 e.insts[i].chart.status, .int .i64 e.insts[i].chart.now, .slice b1 e.insts[i].chart.vars.length l1, .slice b2 e.insts[i].chart.marks.length l2, .slice b3 e.insts[i].chart.dues.length l3] 87)) := hid ⟨(hb2.block _ (Ch.blk_lt k0)).trans k0, (hb2.block _ (Ch.blk_lt k9)).trans k9⟩
  have HA2 := hid (HA.out.below hb2)
  have HC2 := hid (HCA.out.below hb2)
  have HR2 := hid (HR.out.below hb2 HR.out.lt)
  clear hb2 k0 k9 HA HCA HR HH HB1
  cases hx : hasP e e.insts[i].proc
  · have HE := hid (i_range hx)
    go_wp2
    go_ret
    exact ⟨by rw [HE.out]; rfl, HB2.out⟩
  have HX := hid hx
  obtain ⟨hp0, hp1, hp2⟩ := hasP_in hx
  have hsm : St.Small 1048576 (stepsD e e.insts[i].proc) := by rw [stepsD_eq hp1]; exact HS0.out.procs.at hp1
  have HS := hid (fun w3 (hb : Below w2.heap.size w2 w3) => implStepsOf e _ _ i 0 w3 HS0.out (HA2.out.below hb) hi hx)
  have HC := hid (fun w3 (hb : Below w2.heap.size w2 w3) v (hv : St.At w3 0 v (stepsD e e.insts[i].proc)) => Kc.implChartFault _ e.insts[i].chart v _ _ _ w3 hsm (HS0.out.insts.at hi) hv (HC2.out.below hb) (HR2.out.below hb HR2.out.lt))
  have HI : Hid (∀ c, c = chartC (stepsD e e.insts[i].proc) e.insts[i].chart → instC e e.insts[i] = if c ≠ 0 then c else if e.insts[i].chart.now = e.now then 0 else 9) := hid (fun c hc => by rw [hc]; unfold instC; rw [if_pos hx])
  clear hx hp0 hp1 hp2 hsm
  generalize hcc : chartC (stepsD e e.insts[i].proc) e.insts[i].chart = cc at *
  have HI2 := hid (HI.out cc rfl)
  clear HI hcc
  have HKd : Hid (w2.drew.heap[w.heap.size]? = some (.cells #[.slice a1 e.procs.length k1, .slice (some ⟨g, o, none⟩) e.insts.length k2, .int .i64 e.now] 31) ∧ w2.drew.heap[w.heap.size + 1]? = some (.cells #[.int .i64 e.insts[i].proc, .int .i64 e.insts[i].chart.status, .int .i64 e.insts[i].chart.now, .slice b1 e.insts[i].chart.vars.length l1, .slice b2 e.insts[i].chart.marks.length l2, .slice b3 e.insts[i].chart.dues.length l3] 87)) := hid HK2.out
  go_wp2
  refine wp_region_held_drew (S := fun wx => wx.heap[w.heap.size]? = some (.cells #[.slice a1 e.procs.length k1, .slice (some ⟨g, o, none⟩) e.insts.length k2, .int .i64 e.now] 31) ∧ wx.heap[w.heap.size + 1]? = some (.cells #[.int .i64 e.insts[i].proc, .int .i64 e.insts[i].chart.status, .int .i64 e.insts[i].chart.now, .slice b1 e.insts[i].chart.vars.length l1, .slice b2 e.insts[i].chart.marks.length l2, .slice b3 e.insts[i].chart.dues.length l3] 87)) (by kernel_rfl) HKd.out (fun hHeld => ?_)
  refine wpAnyH_take (i := 0) (oi := { dst := some 17, op := Go.Op.load 31 (Go.Operand.tmp 2), type := 31, pos := "l11_engine.go:54", after := #[], guard := none }) (v := .agg #[.slice a1 e.procs.length k1, .slice (some ⟨g, o, none⟩) e.insts.length k2, .int .i64 e.now]) rfl (by kernel_rfl) (by kernel_rfl) (by kernel_rfl) (fun _ _ _ h => h) (Or.inl ⟨by rfl, by intro w hSw; (try dsimp only at hSw); obtain ⟨h1, h2⟩ := hSw; have m0 := Ch.blk_cell h1 0; have m1 := Ch.blk_cell h1 1; have m2 := Ch.blk_cell h1 2; clear h1 h2; go_simp⟩) (by assumption) ?_
  simp only [Act.put, List.setIfInBounds_toArray, List.set_cons_zero, List.set_cons_succ]
  refine wpAnyH_take (i := 1) (oi := { dst := some 18, op := Go.Op.move (Go.Operand.tmp 1), type := 2, pos := "l11_engine.go:54", after := #[], guard := none }) (v := .int .i64 (i : Int)) rfl (by kernel_rfl) (by kernel_rfl) (by kernel_rfl) (fun _ _ _ h => h) (Or.inl ⟨by rfl, by intro w hSw; (try dsimp only at hSw); go_simp⟩) (by assumption) ?_
  simp only [Act.put, List.setIfInBounds_toArray, List.set_cons_zero, List.set_cons_succ]
  refine wpAnyH_take (i := 3) (oi := { dst := some 20, op := Go.Op.fieldAddr 87 (Go.Operand.tmp 5) 1, type := 0, pos := "l11_engine.go:54", after := #[], guard := none }) (v := .pointer (some ⟨w.heap.size + 1, 1, none⟩)) rfl (by kernel_rfl) (by kernel_rfl) (by kernel_rfl) (fun _ _ _ h => h) (Or.inl ⟨by rfl, by intro w hSw; (try dsimp only at hSw); go_simp⟩) (by assumption) ?_
  simp only [Act.put, List.setIfInBounds_toArray, List.set_cons_zero, List.set_cons_succ]
  refine wpAnyH_take (i := 4) (oi := { dst := some 21, op := Go.Op.load 82 (Go.Operand.tmp 20), type := 82, pos := "l11_engine.go:54", after := #[{ on := 3, ground := Go.Ground.data }], guard := none }) (v := .agg #[.int .i64 e.insts[i].chart.status, .int .i64 e.insts[i].chart.now, .slice b1 e.insts[i].chart.vars.length l1, .slice b2 e.insts[i].chart.marks.length l2, .slice b3 e.insts[i].chart.dues.length l3]) rfl (by kernel_rfl) (by kernel_rfl) (by kernel_rfl) (fun _ _ _ h => h) (Or.inl ⟨by rfl, by intro w hSw; (try dsimp only at hSw); obtain ⟨h1, h2⟩ := hSw; have m0 := Ch.blk_cell h2 0; have m1 := Ch.blk_cell h2 1; have m2 := Ch.blk_cell h2 2; have m3 := Ch.blk_cell h2 3; have m4 := Ch.blk_cell h2 4; have m5 := Ch.blk_cell h2 5; clear h1 h2; go_simp⟩) (by assumption) ?_
  simp only [Act.put, List.setIfInBounds_toArray, List.set_cons_zero, List.set_cons_succ]
  refine wpAnyH_ready (rs := [2]) (by kernel_rfl) (by simp) ?_
  refine AllReadyH.cons (o := { dst := some 19, op := Go.Op.call { callee := Go.Callee.value (Go.Operand.func 66), args := #[Go.Operand.tmp 17, Go.Operand.tmp 18], argTypes := #[31, 2] }, type := 62, pos := "l11_engine.go:54", after := #[{ on := 0, ground := Go.Ground.data }, { on := 1, ground := Go.Ground.data }], guard := none }) rfl (fun K hK => ?_) AllReadyH.nil
  go_simp
  go_at_call 66
  refine (HS.out _ (Below.refl w2.heap.size w2).drew).mono ?_
  rintro z w3 ⟨⟨v, rfl, hv⟩, hb3⟩
  obtain ⟨c3, d3, rfl⟩ := hv.slice
  have HV := hid hv
  have hb3 := ((Below.refl w2.heap.size w2).drew).trans (hb3.mono (Below.refl w2.heap.size w2).drew.size)
  have HK3 : Hid (w3.heap[w.heap.size]? = some (.cells #[.slice a1 e.procs.length k1, .slice (some ⟨g, o, none⟩) e.insts.length k2, .int .i64 e.now] 31) ∧ w3.heap[w.heap.size + 1]? = some (.cells #[.int .i64 e.insts[i].proc, .int .i64 e.insts[i].chart.status, .int .i64 e.insts[i].chart.now, .slice b1 e.insts[i].chart.vars.length l1, .slice b2 e.insts[i].chart.marks.length l2, .slice b3 e.insts[i].chart.dues.length l3] 87)) := hid ⟨(hb3.block _ (Ch.blk_lt HK2.out.1)).trans HK2.out.1, (hb3.block _ (Ch.blk_lt HK2.out.2)).trans HK2.out.2⟩
  have HB3 := hid hb3
  clear hv hb3
  go_wp2_with fail
  refine hK.out _ _ HK3.out (fun hHeld => ?_)
  clear hK K
  try simp only [Act.put, List.setIfInBounds_toArray, List.set_cons_zero, List.set_cons_succ]
  refine wpAnyH_ready (rs := [5]) (by kernel_rfl) (by simp) ?_
  refine AllReadyH.cons (o := { dst := some 22, op := Go.Op.call { callee := Go.Callee.value (Go.Operand.func 80), args := #[Go.Operand.tmp 19, Go.Operand.tmp 21], argTypes := #[62, 82] }, type := 2, pos := "l11_engine.go:54", after := #[{ on := 2, ground := Go.Ground.data }, { on := 4, ground := Go.Ground.data }, { on := 2, ground := Go.Ground.chain }], guard := none }) rfl (fun K hK => ?_) AllReadyH.nil
  go_simp
  go_at_call 80
  refine (HC.out w3 HB3.out _ HV.out).mono ?_
  rintro z w4 ⟨rfl, hb4⟩
  have HK4 : Hid (w4.heap[w.heap.size]? = some (.cells #[.slice a1 e.procs.length k1, .slice (some ⟨g, o, none⟩) e.insts.length k2, .int .i64 e.now] 31) ∧ w4.heap[w.heap.size + 1]? = some (.cells #[.int .i64 e.insts[i].proc, .int .i64 e.insts[i].chart.status, .int .i64 e.insts[i].chart.now, .slice b1 e.insts[i].chart.vars.length l1, .slice b2 e.insts[i].chart.marks.length l2, .slice b3 e.insts[i].chart.dues.length l3] 87)) := hid ⟨(hb4.block _ (Ch.blk_lt HK3.out.1)).trans HK3.out.1, (hb4.block _ (Ch.blk_lt HK3.out.2)).trans HK3.out.2⟩
  have HB4 := hid (HB3.out.trans (hb4.mono HB3.out.size))
  clear hb4
  go_wp2_with fail
  refine hK.out _ _ HK4.out (fun hHeld => ?_)
  clear hK K
  try simp only [Act.put, List.setIfInBounds_toArray, List.set_cons_zero, List.set_cons_succ]
  refine wpAnyH_take (i := 6) (oi := { dst := some 6, op := Go.Op.assign (Go.Operand.tmp 22), type := 2, pos := "l11_engine.go:54", after := #[{ on := 5, ground := Go.Ground.data }, { on := 5, ground := Go.Ground.chain }, { on := 0, ground := Go.Ground.phase }, { on := 1, ground := Go.Ground.phase }, { on := 2, ground := Go.Ground.phase }, { on := 3, ground := Go.Ground.phase }, { on := 4, ground := Go.Ground.phase }, { on := 5, ground := Go.Ground.phase }], guard := none }) (v := .int .i64 cc) rfl (by kernel_rfl) (by kernel_rfl) (by kernel_rfl) (fun _ _ _ h => h) (Or.inl ⟨by rfl, by intro w hSw; (try dsimp only at hSw); go_simp⟩) (by assumption) ?_
  simp only [Act.put, List.setIfInBounds_toArray, List.set_cons_zero, List.set_cons_succ]
  refine wpAnyH_done (by kernel_rfl) ?_ _
  have k4 := HK4.out
  have m2 := Ch.blk_cell k4.2 2
  have m3 := Ch.blk_cell k4.1 2
  have lk1 := Ch.blk_lt k4.1
  have lk2 := Ch.blk_lt k4.2
  replace m2 : w4.cell? ⟨w.heap.size + 1, 2, none⟩ = some (.int .i64 e.insts[i].chart.now) := m2
  replace m3 : w4.cell? ⟨w.heap.size, 2, none⟩ = some (.int .i64 e.now) := m3
  have HBZ := hid (HB2.out.trans (HB4.out.mono HB2.out.size))
  clear hHeld HK2 HK3 HK4 HKd HS HC HV HB3 HB4 k4 HA2 HC2 HR2 HB2 HX
  by_cases hz : cc = 0
  · subst hz
    rw [if_neg (by simp)] at HI2
    have b0 : ((0 : Int) != 0) = false := rfl
    cases hn : (e.insts[i].chart.now == e.now)
    · have HE : Hid (instC e e.insts[i] = 9) := hid (by rw [HI2.out, if_neg (by simpa using hn)])
      have b1 : (e.insts[i].chart.now != e.now) = true := by rw [bne, hn]; rfl
      clear HI2 hn
      go_wp2
      go_ret
      exact ⟨by rw [HE.out]; rfl, HBZ.out⟩
    · have HE : Hid (instC e e.insts[i] = 0) := hid (by rw [HI2.out, if_pos (by simpa using hn)])
      have b1 : (e.insts[i].chart.now != e.now) = false := by rw [bne, hn]; rfl
      clear HI2 hn
      go_wp2
      go_ret
      exact ⟨by rw [HE.out]; rfl, HBZ.out⟩
  · have b0 : (cc != 0) = true := bne_iff_ne.2 hz
    have HE : Hid (instC e e.insts[i] = cc) := hid (by rw [HI2.out, if_pos hz])
    clear HI2 hz
    go_wp2
    go_ret
    exact ⟨by rw [HE.out]; rfl, HBZ.out⟩
end Eg
end Go.Proofs.YtpmlialjoonpeaaGreatDoor
