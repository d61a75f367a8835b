/- Laid together: WnA, MkT. -/
import Derived.Test.YtccklgopcjilcaaGreatDoorJNW44
import Derived.Test.YtccklgopcjilcaaGreatDoorProg
import Derived.Lib.ItoaNum
import Derived.WalkKit
import Derived.Below
import Derived.Lib.SlBytesConst
/- NewWorld on both sides. Condition on the program's: the table of rules lies as its initialiser lays it. -/
namespace Go.Proofs.YtccklgopcjilcaaGreatDoor
open Go.RowKit Go.Deep
set_option linter.unusedVariables false
namespace Wn
open Ex (hid)
open St (StepD)
open En (EngD)
open Eg (procsC)
open Pf (Rul pFault)
open Eo (EOwn EPost noE)
open Ch (blk_cell blk_lt blk_free blk_set new_blk new_at)
/-- What NewWorld answers: a code, an engine of its own, nothing else. -/
def WPost (code : Int) (e : EngD) (w : World) (z : Ending) (w' : World) : Prop :=
  (∃ vp vi, z = .returned (.agg #[.int .i64 code, .int .i64 0, .int .i64 0, vp, vi, .int .i64 e.now, .slice none 0 0, .slice none 0 0, .slice none 0 0]) ∧ EOwn w' w.heap.size vp vi e) ∧ Below w.heap.size w w'
abbrev Z9 : Array Value := #[.int .i64 0, .int .i64 0, .int .i64 0, .slice none 0 0, .slice none 0 0, .int .i64 0, .slice none 0 0, .slice none 0 0, .slice none 0 0]
theorem nine {w : World} {b : Nat} {t : TypeId} {z0 z1 z2 z3 z4 z5 z6 z7 z8 : Value} (h : w.heap[b]? = some (.cells #[z0, z1, z2, z3, z4, z5, z6, z7, z8] t)) :
    w.cell? ⟨b, 0, none⟩ = some z0 ∧ w.cell? ⟨b, 1, none⟩ = some z1 ∧ w.cell? ⟨b, 2, none⟩ = some z2 ∧ w.cell? ⟨b, 3, none⟩ = some z3 ∧ w.cell? ⟨b, 4, none⟩ = some z4 ∧ w.cell? ⟨b, 5, none⟩ = some z5 ∧ w.cell? ⟨b, 6, none⟩ = some z6 ∧ w.cell? ⟨b, 7, none⟩ = some z7 ∧ w.cell? ⟨b, 8, none⟩ = some z8 ∧ (∀ i, w.frozen? ⟨b, i, none⟩ = false) ∧ b < w.heap.size :=
  ⟨blk_cell h 0, blk_cell h 1, blk_cell h 2, blk_cell h 3, blk_cell h 4, blk_cell h 5, blk_cell h 6, blk_cell h 7, blk_cell h 8, fun i => blk_free h i, blk_lt h⟩
theorem below9 {W w : World} {B b : Nat} (h : Below B W w) (hb : B ≤ b) (x0 x1 x2 x3 x4 x5 x6 x7 x8 : Value) :
    Below B W ((((((((((w.setCell ⟨b, 0, none⟩ x0).setCell ⟨b, 1, none⟩ x1).setCell ⟨b, 2, none⟩ x2).setCell ⟨b, 3, none⟩ x3).setCell ⟨b, 4, none⟩ x4).setCell ⟨b, 5, none⟩ x5).setCell ⟨b, 6, none⟩ x6).setCell ⟨b, 7, none⟩ x7).setCell ⟨b, 8, none⟩ x8)) := (((((((((h.setCell hb _).setCell hb _).setCell hb _).setCell hb _).setCell hb _).setCell hb _).setCell hb _).setCell hb _).setCell hb _)
set_option maxRecDepth 100000 in
set_option maxHeartbeats 2000000 in
theorem specBad (c : Int) (w : World) : Calls Tryz.prog 48 #[.int .i64 c] w fun z w' => z = .returned (.agg #[.int .i64 c, .int .i64 0, .int .i64 0, .slice none 0 0, .slice none 0 0, .int .i64 0, .slice none 0 0, .slice none 0 0, .slice none 0 0]) ∧ Below w.heap.size w w' := by
  go_enter Tryz.func48, Tryz.ntmps48
  go_wp2
  refine bodyPost_ret (v := .agg #[.int .i64 c, .int .i64 0, .int .i64 0, .slice none 0 0, .slice none 0 0, .int .i64 0, .slice none 0 0, .slice none 0 0, .slice none 0 0]) (by simp [results, Tryz.results48, go_sem]) rfl ⟨rfl, ?_⟩
  exact (Below.refl _ w).alloc (Nat.le_refl _) _
set_option maxRecDepth 100000 in
set_option maxHeartbeats 8000000 in
theorem specNewWorld (B : Nat) (ps : List (List StepD)) (v : Value) (w : World) (hs : Ep.Small 1048576 ps) (ha : Ep.At w B v ps) :
    Calls Tryz.prog 10 #[v] w (WPost (procsC ps) (if procsC ps = 0 then ⟨ps, [], 0⟩ else noE) w) := by
  obtain ⟨a1, k1, rfl⟩ := ha.slice
  obtain ⟨w0, e0⟩ : ∃ w0, w0 = w.alloc (.cells #[.int .i64 0, .int .i64 0, .int .i64 0, .slice none 0 0, .slice none 0 0, .int .i64 0, .slice none 0 0, .slice none 0 0, .slice none 0 0] 37) := ⟨_, rfl⟩
  have hb0 : Below w.heap.size w w0 := by rw [e0]; exact (Below.refl _ w).alloc (Nat.le_refl _) _
  have HK := hid (show w0.heap[w.heap.size]? = some (.cells #[.int .i64 0, .int .i64 0, .int .i64 0, .slice none 0 0, .slice none 0 0, .int .i64 0, .slice none 0 0, .slice none 0 0, .slice none 0 0] 37) by rw [e0]; exact new_blk _ _)
  have HC := hid (Eo.specNewEngine B ps _ w0 hs (ha.below hb0))
  have HB0 := hid hb0
  have HSM := hid (show procsC ps ≠ 0 → (if procsC ps = 0 then (⟨ps, [], 0⟩ : EngD) else noE) = noE from fun h => if_neg h)
  clear ha hs hb0
  generalize (if procsC ps = 0 then (⟨ps, [], 0⟩ : EngD) else noE) = rr at *
  generalize procsC ps = cc at *
  go_enter Tryz.func10, Tryz.ntmps10
  go_wp2_with fail
  rw [← e0]
  clear e0
  refine HC.out.mono ?_
  rintro z w1 ⟨⟨up, ui, rfl, hu⟩, hb1⟩
  obtain ⟨q1, q2, hq⟩ := hu.at'.procs.slice
  obtain ⟨q3, q4, hq'⟩ := hu.at'.insts.slice
  subst hq hq'
  have HB1 := hid (HB0.out.trans (hb1.mono HB0.out.size))
  have HK1 := hid ((hb1.block _ (blk_lt HK.out)).trans HK.out)
  have HS01 := hid HB0.out.size
  have HS00 := hid (blk_lt HK.out)
  have HU := hid hu
  clear hu hb1 HC HK
  have hbx : Below w1.heap.size w1 (w1.alloc (.cells #[.int .i64 cc, .int .i64 0, .slice q1 rr.procs.length q2, .slice q3 rr.insts.length q4, .int .i64 rr.now] 63)) := (Below.refl _ w1).alloc (Nat.le_refl _) _
  have HB2 := hid (HB1.out.trans (hbx.mono HB1.out.size))
  clear hbx
  by_cases hz : cc = 0
  case pos =>
    subst hz
    have b0 : ((0 : Int) != 0) = false := rfl
    obtain ⟨n0, n1, n2, n3, n4, n5, n6, n7, n8, nf, nl⟩ := nine HK1.out
    have f0 := nf 0
    have f1 := nf 1
    have f2 := nf 2
    have f3 := nf 3
    have f4 := nf 4
    have f5 := nf 5
    have f6 := nf 6
    have f7 := nf 7
    have f8 := nf 8
    clear nf
    obtain ⟨w9, e9⟩ : ∃ w9, w9 = (((((((((w1.setCell ⟨w.heap.size, 0, none⟩ (.int .i64 0)).setCell ⟨w.heap.size, 1, none⟩ (.int .i64 0)).setCell ⟨w.heap.size, 2, none⟩ (.int .i64 0)).setCell ⟨w.heap.size, 3, none⟩ (.slice q1 rr.procs.length q2)).setCell ⟨w.heap.size, 4, none⟩ (.slice q3 rr.insts.length q4)).setCell ⟨w.heap.size, 5, none⟩ (.int .i64 rr.now)).setCell ⟨w.heap.size, 6, none⟩ (.slice none 0 0)).setCell ⟨w.heap.size, 7, none⟩ (.slice none 0 0)).setCell ⟨w.heap.size, 8, none⟩ (.slice none 0 0)) := ⟨_, rfl⟩
    have K9 : w9.heap[w.heap.size]? = some (.cells #[.int .i64 0, .int .i64 0, .int .i64 0, .slice q1 rr.procs.length q2, .slice q3 rr.insts.length q4, .int .i64 rr.now, .slice none 0 0, .slice none 0 0, .slice none 0 0] 37) := by rw [e9]; have := (blk_set (i := 8) (blk_set (i := 7) (blk_set (i := 6) (blk_set (i := 5) (blk_set (i := 4) (blk_set (i := 3) (blk_set (i := 2) (blk_set (i := 1) (blk_set (i := 0) HK1.out (.int .i64 0)) (.int .i64 0)) (.int .i64 0)) (.slice q1 rr.procs.length q2)) (.slice q3 rr.insts.length q4)) (.int .i64 rr.now)) (.slice none 0 0)) (.slice none 0 0)) (.slice none 0 0)); simpa using this
    have HB9 : Hid (Below w.heap.size w w9) := hid (by rw [e9]; exact below9 HB1.out (Nat.le_refl _) _ _ _ _ _ _ _ _ _)
    have HO9 := hid (fun b (hb : b ≠ w.heap.size) => show w9.heap[b]? = w1.heap[b]? by rw [e9]; repeat rw [Below.heap_setCell _ _ _ _ (by dsimp only; omega)])
    have HZ9 : Hid (w9.heap.size = w1.heap.size) := hid (by rw [e9]; simp [World.setCell])
    go_wp2
    rw [← e9]
    clear e9
    obtain ⟨wz, ez⟩ : ∃ wz, wz = w9.alloc (.cells #[.int .i64 0, .int .i64 0, .slice q1 rr.procs.length q2, .slice q3 rr.insts.length q4, .int .i64 rr.now] 63) := ⟨_, rfl⟩
    rw [← ez]
    have hbz : Below w9.heap.size w9 wz := by rw [ez]; exact (Below.refl _ w9).alloc (Nat.le_refl _) _
    clear ez
    obtain ⟨r0, r1, r2, r3, r4, r5, r6, r7, r8, _, _⟩ := nine ((hbz.block _ (blk_lt K9)).trans K9)
    refine bodyPost_ret (v := .agg #[.int .i64 0, .int .i64 0, .int .i64 0, .slice q1 rr.procs.length q2, .slice q3 rr.insts.length q4, .int .i64 rr.now, .slice none 0 0, .slice none 0 0, .slice none 0 0]) (by simp [results, Tryz.results10, go_sem, r0, r1, r2, r3, r4, r5, r6, r7, r8]) rfl ⟨⟨_, _, rfl, ?_⟩, HB9.out.trans (hbz.mono HB9.out.size)⟩
    exact ((HU.out.keep (Nat.le_of_eq HZ9.out.symm) (fun b hb _ => HO9.out b (by have := HS00.out; omega))).keep hbz.size (fun b _ hl => hbz.block b hl)).mono HS01.out
  have b0 : (cc != 0) = true := bne_iff_ne.2 hz
  have HN := hid (HSM.out hz)
  have HD := hid (fun w' => specBad cc w')
  have nl := blk_lt HK1.out
  have HK2 := hid ((show (w1.alloc (.cells #[.int .i64 cc, .int .i64 0, .slice q1 rr.procs.length q2, .slice q3 rr.insts.length q4, .int .i64 rr.now] 63)).heap[w.heap.size]? = _ from Below.heap_alloc _ _ _ nl).trans HK1.out)
  clear hz HSM
  go_wp2_with fail
  refine (HD.out _).mono ?_
  rintro z w3 ⟨rfl, hb3⟩
  have K3 := (hb3.block _ (blk_lt HK2.out)).trans HK2.out
  obtain ⟨n0, n1, n2, n3, n4, n5, n6, n7, n8, nf, nl⟩ := nine K3
  have f0 := nf 0
  have f1 := nf 1
  have f2 := nf 2
  have f3 := nf 3
  have f4 := nf 4
  have f5 := nf 5
  have f6 := nf 6
  have f7 := nf 7
  have f8 := nf 8
  have HBX := hid (HB2.out.trans (hb3.mono HB2.out.size))
  clear hb3 nf HD
  obtain ⟨w9, e9⟩ : ∃ w9, w9 = (((((((((w3.setCell ⟨w.heap.size, 0, none⟩ (.int .i64 cc)).setCell ⟨w.heap.size, 1, none⟩ (.int .i64 0)).setCell ⟨w.heap.size, 2, none⟩ (.int .i64 0)).setCell ⟨w.heap.size, 3, none⟩ (.slice none 0 0)).setCell ⟨w.heap.size, 4, none⟩ (.slice none 0 0)).setCell ⟨w.heap.size, 5, none⟩ (.int .i64 0)).setCell ⟨w.heap.size, 6, none⟩ (.slice none 0 0)).setCell ⟨w.heap.size, 7, none⟩ (.slice none 0 0)).setCell ⟨w.heap.size, 8, none⟩ (.slice none 0 0)) := ⟨_, rfl⟩
  have K9 : w9.heap[w.heap.size]? = some (.cells #[.int .i64 cc, .int .i64 0, .int .i64 0, .slice none 0 0, .slice none 0 0, .int .i64 0, .slice none 0 0, .slice none 0 0, .slice none 0 0] 37) := by rw [e9]; have := (blk_set (i := 8) (blk_set (i := 7) (blk_set (i := 6) (blk_set (i := 5) (blk_set (i := 4) (blk_set (i := 3) (blk_set (i := 2) (blk_set (i := 1) (blk_set (i := 0) K3 (.int .i64 cc)) (.int .i64 0)) (.int .i64 0)) (.slice none 0 0)) (.slice none 0 0)) (.int .i64 0)) (.slice none 0 0)) (.slice none 0 0)) (.slice none 0 0)); simpa using this
  have HB9 : Hid (Below w.heap.size w w9) := hid (by rw [e9]; exact below9 HBX.out (Nat.le_refl _) _ _ _ _ _ _ _ _ _)
  have HO9 := hid (fun b (hb : b ≠ w.heap.size) => show w9.heap[b]? = w3.heap[b]? by rw [e9]; repeat rw [Below.heap_setCell _ _ _ _ (by dsimp only; omega)])
  have HZ9 : Hid (w9.heap.size = w3.heap.size) := hid (by rw [e9]; simp [World.setCell])
  clear K3
  go_wp2
  rw [← e9]
  clear e9
  obtain ⟨r0, r1, r2, r3, r4, r5, r6, r7, r8, _, _⟩ := nine K9
  refine bodyPost_ret (v := .agg #[.int .i64 cc, .int .i64 0, .int .i64 0, .slice none 0 0, .slice none 0 0, .int .i64 0, .slice none 0 0, .slice none 0 0, .slice none 0 0]) (by simp [results, Tryz.results10, go_sem, r0, r1, r2, r3, r4, r5, r6, r7, r8]) rfl ⟨⟨_, _, by rw [HN.out], by rw [HN.out]; exact EOwn.nil _ _ _⟩, HB9.out⟩
set_option maxRecDepth 100000 in
set_option maxHeartbeats 8000000 in
theorem implNewWorld (ps : List (List StepD)) (v : Value) (w : World) (hs : Ep.Small 1048576 ps) (hw : (Ep.wt ps : Int) ≤ 1048576) (ha : Ep.At w 0 v ps) (hr : Rul w) :
    Calls Tryz.prog 12 #[v] w (WPost (procsC ps) (if procsC ps = 0 then ⟨ps, [], 0⟩ else noE) w) := by
  obtain ⟨a1, k1, rfl⟩ := ha.slice
  obtain ⟨w0, e0⟩ : ∃ w0, w0 = w.alloc (.cells #[.int .i64 0, .int .i64 0, .int .i64 0, .slice none 0 0, .slice none 0 0, .int .i64 0, .slice none 0 0, .slice none 0 0, .slice none 0 0] 37) := ⟨_, rfl⟩
  have hb0 : Below w.heap.size w w0 := by rw [e0]; exact (Below.refl _ w).alloc (Nat.le_refl _) _
  have HK := hid (show w0.heap[w.heap.size]? = some (.cells #[.int .i64 0, .int .i64 0, .int .i64 0, .slice none 0 0, .slice none 0 0, .int .i64 0, .slice none 0 0, .slice none 0 0, .slice none 0 0] 37) by rw [e0]; exact new_blk _ _)
  have HC := hid (Eo.implNewEngine ps _ w0 hs hw (ha.below hb0) (hr.below hb0 hr.lt))
  have HB0 := hid hb0
  clear ha hs hb0 hr hw
  generalize (if procsC ps = 0 then (⟨ps, [], 0⟩ : EngD) else noE) = rr at *
  generalize procsC ps = cc at *
  go_enter Tryz.func12, Tryz.ntmps12
  go_wp2_with fail
  rw [← e0]
  clear e0
  refine HC.out.mono ?_
  rintro z w1 ⟨⟨up, ui, rfl, hu⟩, hb1⟩
  obtain ⟨q1, q2, hq⟩ := hu.at'.procs.slice
  obtain ⟨q3, q4, hq'⟩ := hu.at'.insts.slice
  subst hq hq'
  have HB1 := hid (HB0.out.trans (hb1.mono HB0.out.size))
  have HK1 := hid ((hb1.block _ (blk_lt HK.out)).trans HK.out)
  have HS01 := hid HB0.out.size
  have HS00 := hid (blk_lt HK.out)
  have HU := hid hu
  clear hu hb1 HC HK
  have hbx : Below w1.heap.size w1 (w1.alloc (.cells #[.int .i64 cc, .int .i64 0, .slice q1 rr.procs.length q2, .slice q3 rr.insts.length q4, .int .i64 rr.now] 63)) := (Below.refl _ w1).alloc (Nat.le_refl _) _
  have HB2 := hid (HB1.out.trans (hbx.mono HB1.out.size))
  clear hbx
  obtain ⟨n0, n1, n2, n3, n4, n5, n6, n7, n8, nf, nl⟩ := nine HK1.out
  have f0 := nf 0
  have f1 := nf 1
  have f2 := nf 2
  have f3 := nf 3
  have f4 := nf 4
  have f5 := nf 5
  have f6 := nf 6
  have f7 := nf 7
  have f8 := nf 8
  clear nf
  obtain ⟨w9, e9⟩ : ∃ w9, w9 = (((((((((w1.setCell ⟨w.heap.size, 0, none⟩ (.int .i64 cc)).setCell ⟨w.heap.size, 1, none⟩ (.int .i64 0)).setCell ⟨w.heap.size, 2, none⟩ (.int .i64 0)).setCell ⟨w.heap.size, 3, none⟩ (.slice q1 rr.procs.length q2)).setCell ⟨w.heap.size, 4, none⟩ (.slice q3 rr.insts.length q4)).setCell ⟨w.heap.size, 5, none⟩ (.int .i64 rr.now)).setCell ⟨w.heap.size, 6, none⟩ (.slice none 0 0)).setCell ⟨w.heap.size, 7, none⟩ (.slice none 0 0)).setCell ⟨w.heap.size, 8, none⟩ (.slice none 0 0)) := ⟨_, rfl⟩
  have K9 : w9.heap[w.heap.size]? = some (.cells #[.int .i64 cc, .int .i64 0, .int .i64 0, .slice q1 rr.procs.length q2, .slice q3 rr.insts.length q4, .int .i64 rr.now, .slice none 0 0, .slice none 0 0, .slice none 0 0] 37) := by rw [e9]; have := (blk_set (i := 8) (blk_set (i := 7) (blk_set (i := 6) (blk_set (i := 5) (blk_set (i := 4) (blk_set (i := 3) (blk_set (i := 2) (blk_set (i := 1) (blk_set (i := 0) HK1.out (.int .i64 cc)) (.int .i64 0)) (.int .i64 0)) (.slice q1 rr.procs.length q2)) (.slice q3 rr.insts.length q4)) (.int .i64 rr.now)) (.slice none 0 0)) (.slice none 0 0)) (.slice none 0 0)); simpa using this
  have HB9 : Hid (Below w.heap.size w w9) := hid (by rw [e9]; exact below9 HB1.out (Nat.le_refl _) _ _ _ _ _ _ _ _ _)
  have HO9 := hid (fun b (hb : b ≠ w.heap.size) => show w9.heap[b]? = w1.heap[b]? by rw [e9]; repeat rw [Below.heap_setCell _ _ _ _ (by dsimp only; omega)])
  have HZ9 : Hid (w9.heap.size = w1.heap.size) := hid (by rw [e9]; simp [World.setCell])
  go_wp2
  rw [← e9]
  clear e9
  obtain ⟨wz, ez⟩ : ∃ wz, wz = w9.alloc (.cells #[.int .i64 cc, .int .i64 0, .slice q1 rr.procs.length q2, .slice q3 rr.insts.length q4, .int .i64 rr.now] 63) := ⟨_, rfl⟩
  rw [← ez]
  have hbz : Below w9.heap.size w9 wz := by rw [ez]; exact (Below.refl _ w9).alloc (Nat.le_refl _) _
  clear ez
  obtain ⟨r0, r1, r2, r3, r4, r5, r6, r7, r8, _, _⟩ := nine ((hbz.block _ (blk_lt K9)).trans K9)
  refine bodyPost_ret (v := .agg #[.int .i64 cc, .int .i64 0, .int .i64 0, .slice q1 rr.procs.length q2, .slice q3 rr.insts.length q4, .int .i64 rr.now, .slice none 0 0, .slice none 0 0, .slice none 0 0]) (by simp [results, Tryz.results12, go_sem, r0, r1, r2, r3, r4, r5, r6, r7, r8]) rfl ⟨⟨_, _, rfl, ?_⟩, HB9.out.trans (hbz.mono HB9.out.size)⟩
  exact ((HU.out.keep (Nat.le_of_eq HZ9.out.symm) (fun b hb _ => HO9.out b (by have := HS00.out; omega))).keep hbz.size (fun b _ hl => hbz.block b hl)).mono HS01.out
end Wn
end Go.Proofs.YtccklgopcjilcaaGreatDoor
/- The text of a mark, as the law lays it. -/
namespace Go.Proofs.YtccklgopcjilcaaGreatDoor
open Go.RowKit
set_option linter.unusedVariables false
namespace Mk
open Go.Lib (decDigits decDigits_one)
theorem hid {p : Prop} (h : p) : Hid p := h
theorem dec_big {n : Nat} (h : ¬ n < 10) : decDigits n = decDigits (n / 10) ++ [UInt8.ofNat (48 + n % 10)] := by rw [decDigits, dif_neg h]
def mt (k : Nat) : ByteArray := ⟨(109 :: decDigits k).toArray⟩
def dg (k : Nat) : UInt8 := UInt8.ofNat (48 + k % 10)
theorem dg_nat (j : Nat) : ((dg j).toNat : Int) = 48 + (j : Int) % 10 := by
  unfold dg
  have h : (48 + j % 10) < 256 := by omega
  rw [UInt8.toNat_ofNat', Nat.mod_eq_of_lt h]
  push_cast
  rfl
theorem conv1 (j : Nat) (w : World) : Sem.run Tryz.prog (convert 31 9 (.slice (some ⟨w.heap.size, 0, none⟩) 1 1)) (w.alloc (.cells #[.int .u8 (48 + (j : Int) % 10)] 5)) = .ok (.string ⟨[dg j].toArray⟩) (w.alloc (.cells #[.int .u8 (48 + (j : Int) % 10)] 5)) := by
  refine run_convert_bytes_back (P := Tryz.prog) _ 31 9 5 ⟨w.heap.size, 0, none⟩ 1 [dg j] Tryz.underlying31 Tryz.underlying5 Tryz.underlying9 ?_
  intro i hi
  obtain rfl : i = 0 := by simpa using hi
  simp [Addr.add, dg_nat]
theorem app_one (c : UInt8) (l : List UInt8) : Value.string (ByteArray.mk [c].toArray ++ ByteArray.mk l.toArray) = .string ⟨(c :: l).toArray⟩ := by
  apply congrArg Value.string; apply ByteArray.ext; simp
theorem next {K j : Nat} {l : List UInt8} (hj : 0 < j) (h : decDigits j ++ l = decDigits K) : (j / 10 = 0 ∧ dg j :: l = decDigits K) ∨ (0 < j / 10 ∧ decDigits (j / 10) ++ dg j :: l = decDigits K) := by
  by_cases h10 : j < 10
  · left
    refine ⟨by omega, ?_⟩
    rw [← h, decDigits_one h10]
    unfold dg
    rw [Nat.mod_eq_of_lt h10]
    rfl
  · right
    refine ⟨by omega, ?_⟩
    rw [← h, dec_big h10, List.append_assoc]
    rfl
set_option maxRecDepth 100000 in
set_option maxHeartbeats 2000000 in
theorem markText (k : Nat) (w : World) (h0 : 0 < k) (hk : k ≤ 35184372088832) : Calls Tryz.prog 101 #[.int .i64 k] w fun e w' => e = .returned (.string (mt k)) ∧ Below w.heap.size w w' := by
  have q0 : (0 : Int) < (k : Int) := by omega
  have q00 : k ≠ 0 := by omega
  go_enter Tryz.func101, Tryz.ntmps101
  go_wp2
  go_loopw [0, 3] (fun i o wr => ∃ (j : Nat) (l : List UInt8), i = .int .i64 j ∧ o = .string ⟨l.toArray⟩ ∧ l.length + j ≤ k ∧ Hid ((j = 0 ∧ l = decDigits k) ∨ (0 < j ∧ decDigits j ++ l = decDigits k)) ∧ Below w.heap.size w wr) (fun i _ _ => (intOf i).toNat)
  case atStart => exact ⟨k, [], rfl, rfl, by simp, hid (.inr ⟨h0, by rw [List.append_nil]⟩), Below.refl _ _⟩
  case round =>
    obtain ⟨j, l, rfl, rfl, hl, HD, hbel⟩ := hrel
    by_cases hj : 0 < j
    · have q1 : (0 : Int) < (j : Int) := by omega
      have HN : Hid ((j / 10 = 0 ∧ dg j :: l = decDigits k) ∨ (0 < j / 10 ∧ decDigits (j / 10) ++ dg j :: l = decDigits k)) := hid (by
        rcases HD.out with ⟨h, _⟩ | ⟨_, h⟩
        · omega
        · exact next hj h)
      go_wp2
      rw [conv1]
      simp only [Result.andThen]
      rw [Oper.upon_value]
      go_wp2
      exact ⟨⟨j / 10, dg j :: l, by simp, app_one _ _, by simp only [List.length_cons]; omega, HN, hbel.alloc hbel.size _⟩, by simp [intOf]; omega⟩
    · have q1 : ¬ (0 : Int) < (j : Int) := by omega
      have HL : Hid (l = decDigits k) := hid (by
        rcases HD.out with ⟨_, h⟩ | ⟨h, _⟩
        · exact h
        · omega)
      go_wp2
      go_ret
      refine ⟨?_, hbel⟩
      unfold mt
      rw [← HL.out]
      exact congrArg Ending.returned (app_one 109 l)
theorem markText' (k : Int) (w : World) (h0 : 0 < k) (hk : k ≤ 35184372088832) : Calls Tryz.prog 101 #[.int .i64 k] w fun e w' => e = .returned (.string (mt k.toNat)) ∧ Below w.heap.size w w' := by
  have h := markText k.toNat w (by omega) (by omega)
  rw [show ((k.toNat : Nat) : Int) = k by omega] at h
  exact h
end Mk
end Go.Proofs.YtccklgopcjilcaaGreatDoor
