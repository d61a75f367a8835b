/- Laid together: EoR, WnB. -/
import Derived.Test.YtccklgopcjilcaaGreatDoorJNW48
import Derived.Test.YtccklgopcjilcaaGreatDoorJNW45
/- Whether the law's marks still stand in an engine that a function has made itself, and the comparison of two answers. -/
namespace Go.Proofs.YtccklgopcjilcaaGreatDoor
open Go.RowKit Go.Deep
set_option linter.unusedVariables false
namespace Eo
open Ex (hid)
open St (StepD)
open Ei (InstD)
open En (EngD)
open Nst (own own_lt)
open Ch (blk_cell new_blk blk_lt new_at)
theorem kE_pos {k0 : Nat} {e : EngD} (hf : FewE e) (h0 : 0 < k0) : 0 < kE k0 e := by
  have h1 := kI_le (k0 := (kP k0 e.procs e.procs.length : Int)) hf.insts e.insts.length (Nat.le_refl _)
  have h2 := kP_pos h0 e.procs e.procs.length
  unfold kE; omega
set_option maxRecDepth 100000 in
set_option maxHeartbeats 2000000 in
theorem heldE (B k0 : Nat) (e : EngD) (n : Int) (vp vi : Value) (w : World) (hf : FewE e) (h0 : 0 < k0) (hk0 : k0 ≤ 800000) (h : En.At w B vp vi (mkE k0 e)) :
    Calls Tryz.prog 79 #[.agg #[vp, vi, .int .i64 n], .int .i64 (k0 : Int)] w fun z w' => z = .returned (.int .i64 (kE k0 e)) ∧ Below w.heap.size w w' := by
  obtain ⟨a1, k1, hv1⟩ := h.procs.slice
  obtain ⟨a2, k2, hv2⟩ := h.insts.slice
  rw [mkE_np] at hv1
  rw [mkE_ni] at hv2
  subst hv1 hv2
  obtain ⟨w0, e0⟩ : ∃ w0, w0 = w.alloc (.cells #[.slice a1 e.procs.length k1, .slice a2 e.insts.length k2, .int .i64 n] 27) := ⟨_, rfl⟩
  have hb0 : Below w.heap.size w w0 := by rw [e0]; exact (Below.refl _ w).alloc (Nat.le_refl _) _
  have K0 : w0.heap[w.heap.size]? = some (.cells #[.slice a1 e.procs.length k1, .slice a2 e.insts.length k2, .int .i64 n] 27) := by rw [e0]; exact new_blk _ _
  have HI0 := hid (h.below hb0).insts
  have HM1 := hid (heldP B k0 e.procs _ w0 hf.procs h0 hk0 (h.below hb0).procs)
  have HF := hid hf
  have HB0 := hid hb0
  have hkp := kP_le (k0 := k0) hf.procs e.procs.length (Nat.le_refl _)
  have hpp := kP_pos h0 e.procs e.procs.length
  have hl := hf.procs.len
  have hkb : (kP k0 e.procs e.procs.length : Int) ≤ 1000000 := by omega
  have q1 : ¬ (kP k0 e.procs e.procs.length : Int) < 0 := by omega
  have hke := kE_pos hf h0
  have q2 : ¬ kI (kP k0 e.procs e.procs.length : Int) e.insts e.insts.length < 0 := by unfold kE at hke; omega
  clear h hb0 hf hkp hl hke
  go_enter Tryz.func79, Tryz.ntmps79
  go_wp2_with fail
  rw [← e0]
  clear e0
  refine HM1.out.mono ?_
  rintro z w1 ⟨rfl, hb1⟩
  have HB1 := hid (HB0.out.trans (hb1.mono HB0.out.size))
  have K1 : w1.heap[w.heap.size]? = some (.cells #[.slice a1 e.procs.length k1, .slice a2 e.insts.length k2, .int .i64 n] 27) := (hb1.block _ (blk_lt K0)).trans K0
  have c1 : w1.cell? ⟨w.heap.size, 1, none⟩ = some (.slice a2 e.insts.length k2) := by rw [blk_cell K1]; rfl
  have m1 := blk_lt K1
  have HM2 := hid (heldI B (kP k0 e.procs e.procs.length : Int) e.insts _ w1 HF.out.insts (by omega) hkb (HI0.out.below hb1))
  clear hb1 K0 K1 HM1 hpp
  go_wp2_with fail
  refine HM2.out.mono ?_
  rintro z w2 ⟨rfl, hb2⟩
  have HB2 := hid (HB1.out.trans (hb2.mono HB1.out.size))
  clear hb2
  go_wp2
  go_ret
  exact ⟨rfl, HB2.out⟩
set_option maxRecDepth 100000 in
set_option maxHeartbeats 2000000 in
theorem heldER (B : Nat) (e : EngD) (cc vv n : Int) (vp vi : Value) (w : World) (hf : FewE e) (h : En.At w B vp vi (mkE 1 e)) :
    Calls Tryz.prog 34 #[.agg #[.int .i64 cc, .int .i64 vv, vp, vi, .int .i64 n], .int .i64 1] w fun z w' => z = .returned (.int .i64 (kE 1 e)) ∧ Below w.heap.size w w' := by
  obtain ⟨a1, k1, hv1⟩ := h.procs.slice
  obtain ⟨a2, k2, hv2⟩ := h.insts.slice
  rw [mkE_np] at hv1
  rw [mkE_ni] at hv2
  subst hv1 hv2
  obtain ⟨w0, e0⟩ : ∃ w0, w0 = w.alloc (.cells #[.int .i64 cc, .int .i64 vv, .slice a1 e.procs.length k1, .slice a2 e.insts.length k2, .int .i64 n] 63) := ⟨_, rfl⟩
  have hb0 : Below w.heap.size w w0 := by rw [e0]; exact (Below.refl _ w).alloc (Nat.le_refl _) _
  have HM := hid (heldE B 1 e n _ _ w0 hf (by omega) (by omega) (h.below hb0))
  have HB := hid hb0
  have hke := kE_pos hf (k0 := 1) (by omega)
  have q3 : ¬ kE 1 e < 0 := by omega
  clear h hb0 hf hke
  go_enter Tryz.func34, Tryz.ntmps34
  go_wp2_with fail
  rw [← e0]
  clear e0
  refine HM.out.mono ?_
  rintro z w1 ⟨rfl, hb1⟩
  have HB1 := hid (HB.out.trans (hb1.mono HB.out.size))
  clear hb1
  go_wp2
  go_ret
  exact ⟨rfl, HB1.out⟩
set_option maxRecDepth 100000 in
set_option maxHeartbeats 2000000 in
theorem eqER (B1 B2 : Nat) (cc vv : Int) (e : EngD) (vp vi up ui : Value) (w : World) (hl : En.Small 1048576 e) (h1 : En.At w B1 vp vi e) (h2 : En.At w B2 up ui e) :
    Calls Tryz.prog 30 #[.agg #[.int .i64 cc, .int .i64 vv, vp, vi, .int .i64 e.now], .agg #[.int .i64 cc, .int .i64 vv, up, ui, .int .i64 e.now]] w fun z w' => z = .returned (.bool true) ∧ Below w.heap.size w w' := by
  obtain ⟨a1, k1, rfl⟩ := h1.procs.slice
  obtain ⟨a2, k2, rfl⟩ := h1.insts.slice
  obtain ⟨b1, l1, rfl⟩ := h2.procs.slice
  obtain ⟨b2, l2, rfl⟩ := h2.insts.slice
  have e1 : (cc != cc) = false := by simp
  have e2 : (vv != vv) = false := by simp
  obtain ⟨w0, e0⟩ : ∃ w0, w0 = (w.alloc (.cells #[.int .i64 cc, .int .i64 vv, .slice a1 e.procs.length k1, .slice a2 e.insts.length k2, .int .i64 e.now] 63)).alloc (.cells #[.int .i64 cc, .int .i64 vv, .slice b1 e.procs.length l1, .slice b2 e.insts.length l2, .int .i64 e.now] 63) := ⟨_, rfl⟩
  have hb0 : Below w.heap.size w w0 := by rw [e0]; exact ((Below.refl _ w).alloc (Nat.le_refl _) _).alloc (by simp) _
  have HE := hid (En.eq B1 B2 e _ _ _ _ w0 hl (h1.below hb0) (h2.below hb0))
  have HB := hid hb0
  clear h1 h2 hl hb0
  go_enter Tryz.func30, Tryz.ntmps30
  go_wp2_with fail
  rw [← e0]
  clear e0
  refine HE.out.mono ?_
  rintro z w1 ⟨rfl, hb1⟩
  have HB1 := hid (HB.out.trans (hb1.mono HB.out.size))
  clear hb1
  go_wp2
  go_ret
  exact ⟨rfl, HB1.out⟩
end Eo
end Go.Proofs.YtccklgopcjilcaaGreatDoor
/- The comparison, the marks and the holds of a world's answer that has no claims and an empty journal. -/
namespace Go.Proofs.YtccklgopcjilcaaGreatDoor
open Go.RowKit Go.Deep
set_option linter.unusedVariables false
namespace Wn
open Ex (hid)
open St (StepD)
open En (EngD)
open Eg (procsC)
open Pf (Rul pFault)
open Eo (EOwn EOwnC EPost FewE noE mkE kE Chg)
open Ch (blk_cell blk_lt blk_free blk_set new_blk new_at)
theorem eqClaimSNil (w : World) : Calls Tryz.prog 90 #[.slice none 0 0, .slice none 0 0] w fun z w' => z = .returned (.bool true) ∧ w' = w := by
  go_enter Tryz.func90, Tryz.ntmps90
  go_wp2
  go_loopw [5] (fun i wr => i = .int .i64 0 ∧ wr = w) (fun _ _ => 0)
  case atStart => exact ⟨rfl, rfl⟩
  case round =>
    obtain ⟨rfl, rfl⟩ := hrel
    go_wp2
    go_ret
    exact ⟨rfl, rfl⟩
theorem eqByteSNil (w : World) : Calls Tryz.prog 110 #[.slice none 0 0, .slice none 0 0] w fun z w' => z = .returned (.bool true) ∧ w' = w := by
  go_enter Tryz.func110, Tryz.ntmps110
  go_wp2
  go_loopw [5] (fun i wr => i = .int .i64 0 ∧ wr = w) (fun _ _ => 0)
  case atStart => exact ⟨rfl, rfl⟩
  case round =>
    obtain ⟨rfl, rfl⟩ := hrel
    go_wp2
    go_ret
    exact ⟨rfl, rfl⟩
theorem markClaimSNil (k : Int) (w : World) : Calls Tryz.prog 91 #[.slice none 0 0, .int .i64 k] w fun z w' => z = .returned (.int .i64 k) ∧ w' = w := by
  go_enter Tryz.func91, Tryz.ntmps91
  go_wp2
  go_loopw [5, 1] (fun i j wr => i = .int .i64 0 ∧ j = .int .i64 k ∧ wr = w) (fun _ _ _ => 0)
  case atStart => exact ⟨rfl, rfl, rfl⟩
  case round =>
    obtain ⟨rfl, rfl, rfl⟩ := hrel
    go_wp2
    go_ret
    exact ⟨rfl, rfl⟩
theorem markByteSNil (k : Int) (w : World) : Calls Tryz.prog 115 #[.slice none 0 0, .int .i64 k] w fun z w' => z = .returned (.int .i64 k) ∧ w' = w := by
  go_enter Tryz.func115, Tryz.ntmps115
  go_wp2
  go_loopw [5, 1] (fun i j wr => i = .int .i64 0 ∧ j = .int .i64 k ∧ wr = w) (fun _ _ _ => 0)
  case atStart => exact ⟨rfl, rfl, rfl⟩
  case round =>
    obtain ⟨rfl, rfl, rfl⟩ := hrel
    go_wp2
    go_ret
    exact ⟨rfl, rfl⟩
theorem heldClaimSNil (k : Int) (w : World) : Calls Tryz.prog 139 #[.slice none 0 0, .int .i64 k] w fun z w' => z = .returned (.int .i64 k) ∧ w' = w := by
  go_enter Tryz.func139, Tryz.ntmps139
  go_wp2
  go_loopw [5, 1] (fun i j wr => i = .int .i64 0 ∧ j = .int .i64 k ∧ wr = w) (fun _ _ _ => 0)
  case atStart => exact ⟨rfl, rfl, rfl⟩
  case round =>
    obtain ⟨rfl, rfl, rfl⟩ := hrel
    go_wp2
    go_ret
    exact ⟨rfl, rfl⟩
theorem heldByteSNil (k : Int) (w : World) : Calls Tryz.prog 148 #[.slice none 0 0, .int .i64 k] w fun z w' => z = .returned (.int .i64 k) ∧ w' = w := by
  go_enter Tryz.func148, Tryz.ntmps148
  go_wp2
  go_loopw [5, 1] (fun i j wr => i = .int .i64 0 ∧ j = .int .i64 k ∧ wr = w) (fun _ _ _ => 0)
  case atStart => exact ⟨rfl, rfl, rfl⟩
  case round =>
    obtain ⟨rfl, rfl, rfl⟩ := hrel
    go_wp2
    go_ret
    exact ⟨rfl, rfl⟩
set_option maxRecDepth 100000 in
set_option maxHeartbeats 1000000 in
theorem eqJournalNil (w : World) : Calls Tryz.prog 59 #[.agg #[.slice none 0 0, .slice none 0 0], .agg #[.slice none 0 0, .slice none 0 0]] w fun z w' => z = .returned (.bool true) ∧ Below w.heap.size w w' := by
  have HB := hid (show Below w.heap.size w ((w.alloc (.cells #[.slice none 0 0, .slice none 0 0] 33)).alloc (.cells #[.slice none 0 0, .slice none 0 0] 33)) from ((Below.refl _ w).alloc (Nat.le_refl _) _).alloc (by simp) _)
  go_enter Tryz.func59, Tryz.ntmps59
  go_wp2_with fail
  refine (eqByteSNil _).mono ?_
  rintro z w1 ⟨rfl, hw⟩
  replace hw := hw.symm
  subst hw
  go_wp2_with fail
  refine (eqByteSNil _).mono ?_
  rintro z w1 ⟨rfl, hw⟩
  replace hw := hw.symm
  subst hw
  go_wp2
  go_ret
  exact ⟨rfl, HB.out⟩
set_option maxRecDepth 100000 in
set_option maxHeartbeats 1000000 in
theorem markJournalNil (k : Int) (hk : 0 < k) (w : World) : Calls Tryz.prog 64 #[.agg #[.slice none 0 0, .slice none 0 0], .int .i64 k] w fun z w' => z = .returned (.int .i64 k) ∧ Below w.heap.size w w' := by
  have HB := hid (show Below w.heap.size w (w.alloc (.cells #[.slice none 0 0, .slice none 0 0] 33)) from (Below.refl _ w).alloc (Nat.le_refl _) _)
  have q0 : ¬ k < 0 := by omega
  go_enter Tryz.func64, Tryz.ntmps64
  go_wp2_with fail
  refine (markByteSNil k _).mono ?_
  rintro z w1 ⟨rfl, hw⟩
  replace hw := hw.symm
  subst hw
  go_wp2_with fail
  refine (markByteSNil k _).mono ?_
  rintro z w1 ⟨rfl, hw⟩
  replace hw := hw.symm
  subst hw
  go_wp2
  go_ret
  exact ⟨rfl, HB.out⟩
set_option maxRecDepth 100000 in
set_option maxHeartbeats 1000000 in
theorem heldJournalNil (k : Int) (hk : 0 < k) (w : World) : Calls Tryz.prog 103 #[.agg #[.slice none 0 0, .slice none 0 0], .int .i64 k] w fun z w' => z = .returned (.int .i64 k) ∧ Below w.heap.size w w' := by
  have HB := hid (show Below w.heap.size w (w.alloc (.cells #[.slice none 0 0, .slice none 0 0] 33)) from (Below.refl _ w).alloc (Nat.le_refl _) _)
  have q0 : ¬ k < 0 := by omega
  go_enter Tryz.func103, Tryz.ntmps103
  go_wp2_with fail
  refine (heldByteSNil k _).mono ?_
  rintro z w1 ⟨rfl, hw⟩
  replace hw := hw.symm
  subst hw
  go_wp2_with fail
  refine (heldByteSNil k _).mono ?_
  rintro z w1 ⟨rfl, hw⟩
  replace hw := hw.symm
  subst hw
  go_wp2
  go_ret
  exact ⟨rfl, HB.out⟩
set_option maxRecDepth 100000 in
set_option maxHeartbeats 2000000 in
theorem eqDesk (B1 B2 : Nat) (e : EngD) (vp vi up ui : Value) (w : World) (hl : En.Small 1048576 e) (h1 : En.At w B1 vp vi e) (h2 : En.At w B2 up ui e) :
    Calls Tryz.prog 40 #[.agg #[vp, vi, .int .i64 e.now, .slice none 0 0], .agg #[up, ui, .int .i64 e.now, .slice none 0 0]] w fun z w' => z = .returned (.bool true) ∧ Below w.heap.size w w' := by
  obtain ⟨a1, k1, rfl⟩ := h1.procs.slice
  obtain ⟨a2, k2, rfl⟩ := h1.insts.slice
  obtain ⟨b1, l1, rfl⟩ := h2.procs.slice
  obtain ⟨b2, l2, rfl⟩ := h2.insts.slice
  obtain ⟨w0, e0⟩ : ∃ w0, w0 = (w.alloc (.cells #[.slice a1 e.procs.length k1, .slice a2 e.insts.length k2, .int .i64 e.now, .slice none 0 0] 30)).alloc (.cells #[.slice b1 e.procs.length l1, .slice b2 e.insts.length l2, .int .i64 e.now, .slice none 0 0] 30) := ⟨_, rfl⟩
  have hb0 : Below w.heap.size w w0 := by rw [e0]; exact ((Below.refl _ w).alloc (Nat.le_refl _) _).alloc (by simp) _
  have K0 : Hid (w0.heap[w.heap.size]? = some (.cells #[.slice a1 e.procs.length k1, .slice a2 e.insts.length k2, .int .i64 e.now, .slice none 0 0] 30)) := hid (by rw [e0, Below.heap_alloc _ _ _ (by simp), new_blk])
  have K1 : Hid (w0.heap[w.heap.size + 1]? = some (.cells #[.slice b1 e.procs.length l1, .slice b2 e.insts.length l2, .int .i64 e.now, .slice none 0 0] 30)) := hid (by rw [e0]; exact new_at (by simp) _)
  have HE := hid (En.eq B1 B2 e _ _ _ _ w0 hl (h1.below hb0) (h2.below hb0))
  have HB := hid hb0
  clear h1 h2 hl hb0
  go_enter Tryz.func40, Tryz.ntmps40
  go_wp2_with fail
  rw [← e0]
  clear e0
  refine HE.out.mono ?_
  rintro z w1 ⟨rfl, hb1⟩
  have HB1 := hid (HB.out.trans (hb1.mono HB.out.size))
  have hA := (hb1.block _ (blk_lt K0.out)).trans K0.out
  have hB := (hb1.block _ (blk_lt K1.out)).trans K1.out
  have x3 : w1.cell? ⟨w.heap.size, 3, none⟩ = some (.slice none 0 0) := by rw [blk_cell hA]; rfl
  have y3 : w1.cell? ⟨w.heap.size + 1, 3, none⟩ = some (.slice none 0 0) := by rw [blk_cell hB]; rfl
  have lA := blk_lt hA
  have lB := blk_lt hB
  clear hA hB hb1 K0 K1 HB HE
  go_wp2_with fail
  refine (eqClaimSNil _).mono ?_
  rintro z w2 ⟨rfl, hw2⟩
  replace hw2 := hw2.symm
  subst hw2
  go_wp2
  go_ret
  exact ⟨rfl, HB1.out⟩
set_option maxRecDepth 100000 in
set_option maxHeartbeats 2000000 in
theorem eqWorld (B1 B2 : Nat) (e : EngD) (vp vi up ui : Value) (w : World) (hl : En.Small 1048576 e) (h1 : En.At w B1 vp vi e) (h2 : En.At w B2 up ui e) :
    Calls Tryz.prog 22 #[.agg #[vp, vi, .int .i64 e.now, .slice none 0 0, .slice none 0 0, .slice none 0 0], .agg #[up, ui, .int .i64 e.now, .slice none 0 0, .slice none 0 0, .slice none 0 0]] w fun z w' => z = .returned (.bool true) ∧ Below w.heap.size w w' := by
  obtain ⟨a1, k1, rfl⟩ := h1.procs.slice
  obtain ⟨a2, k2, rfl⟩ := h1.insts.slice
  obtain ⟨b1, l1, rfl⟩ := h2.procs.slice
  obtain ⟨b2, l2, rfl⟩ := h2.insts.slice
  obtain ⟨w0, e0⟩ : ∃ w0, w0 = (w.alloc (.cells #[.slice a1 e.procs.length k1, .slice a2 e.insts.length k2, .int .i64 e.now, .slice none 0 0, .slice none 0 0, .slice none 0 0] 35)).alloc (.cells #[.slice b1 e.procs.length l1, .slice b2 e.insts.length l2, .int .i64 e.now, .slice none 0 0, .slice none 0 0, .slice none 0 0] 35) := ⟨_, rfl⟩
  have hb0 : Below w.heap.size w w0 := by rw [e0]; exact ((Below.refl _ w).alloc (Nat.le_refl _) _).alloc (by simp) _
  have K0 : Hid (w0.heap[w.heap.size]? = some (.cells #[.slice a1 e.procs.length k1, .slice a2 e.insts.length k2, .int .i64 e.now, .slice none 0 0, .slice none 0 0, .slice none 0 0] 35)) := hid (by rw [e0, Below.heap_alloc _ _ _ (by simp), new_blk])
  have K1 : Hid (w0.heap[w.heap.size + 1]? = some (.cells #[.slice b1 e.procs.length l1, .slice b2 e.insts.length l2, .int .i64 e.now, .slice none 0 0, .slice none 0 0, .slice none 0 0] 35)) := hid (by rw [e0]; exact new_at (by simp) _)
  have HE := hid (eqDesk B1 B2 e _ _ _ _ w0 hl (h1.below hb0) (h2.below hb0))
  have HB := hid hb0
  clear h1 h2 hl hb0
  go_enter Tryz.func22, Tryz.ntmps22
  go_wp2_with fail
  rw [← e0]
  clear e0
  refine HE.out.mono ?_
  rintro z w1 ⟨rfl, hb1⟩
  have HB1 := hid (HB.out.trans (hb1.mono HB.out.size))
  have hA := (hb1.block _ (blk_lt K0.out)).trans K0.out
  have hB := (hb1.block _ (blk_lt K1.out)).trans K1.out
  have x4 : w1.cell? ⟨w.heap.size, 4, none⟩ = some (.slice none 0 0) := by rw [blk_cell hA]; rfl
  have y4 : w1.cell? ⟨w.heap.size + 1, 4, none⟩ = some (.slice none 0 0) := by rw [blk_cell hB]; rfl
  have x5 : w1.cell? ⟨w.heap.size, 5, none⟩ = some (.slice none 0 0) := by rw [blk_cell hA]; rfl
  have y5 : w1.cell? ⟨w.heap.size + 1, 5, none⟩ = some (.slice none 0 0) := by rw [blk_cell hB]; rfl
  have lA := blk_lt hA
  have lB := blk_lt hB
  clear hA hB hb1 K0 K1 HB HE
  go_wp2_with fail
  refine (eqJournalNil _).mono ?_
  rintro z w2 ⟨rfl, hw2⟩
  have HB2 := hid (HB1.out.trans (hw2.mono HB1.out.size))
  clear hw2
  go_wp2
  go_ret
  exact ⟨rfl, HB2.out⟩
set_option maxRecDepth 100000 in
set_option maxHeartbeats 2000000 in
theorem eqWorldResult (B1 B2 : Nat) (cc : Int) (e : EngD) (vp vi up ui : Value) (w : World) (hl : En.Small 1048576 e) (h1 : En.At w B1 vp vi e) (h2 : En.At w B2 up ui e) :
    Calls Tryz.prog 13 #[.agg #[.int .i64 cc, .int .i64 0, .int .i64 0, vp, vi, .int .i64 e.now, .slice none 0 0, .slice none 0 0, .slice none 0 0], .agg #[.int .i64 cc, .int .i64 0, .int .i64 0, up, ui, .int .i64 e.now, .slice none 0 0, .slice none 0 0, .slice none 0 0]] w fun z w' => z = .returned (.bool true) ∧ Below w.heap.size w w' := by
  obtain ⟨a1, k1, rfl⟩ := h1.procs.slice
  obtain ⟨a2, k2, rfl⟩ := h1.insts.slice
  obtain ⟨b1, l1, rfl⟩ := h2.procs.slice
  obtain ⟨b2, l2, rfl⟩ := h2.insts.slice
  have g1 : (cc != cc) = false := by simp
  have g2 : ((0 : Int) != 0) = false := rfl
  obtain ⟨w0, e0⟩ : ∃ w0, w0 = (w.alloc (.cells #[.int .i64 cc, .int .i64 0, .int .i64 0, .slice a1 e.procs.length k1, .slice a2 e.insts.length k2, .int .i64 e.now, .slice none 0 0, .slice none 0 0, .slice none 0 0] 37)).alloc (.cells #[.int .i64 cc, .int .i64 0, .int .i64 0, .slice b1 e.procs.length l1, .slice b2 e.insts.length l2, .int .i64 e.now, .slice none 0 0, .slice none 0 0, .slice none 0 0] 37) := ⟨_, rfl⟩
  have hb0 : Below w.heap.size w w0 := by rw [e0]; exact ((Below.refl _ w).alloc (Nat.le_refl _) _).alloc (by simp) _
  have HE := hid (eqWorld B1 B2 e _ _ _ _ w0 hl (h1.below hb0) (h2.below hb0))
  have HB := hid hb0
  clear h1 h2 hl hb0
  go_enter Tryz.func13, Tryz.ntmps13
  go_wp2_with fail
  rw [← e0]
  clear e0
  refine HE.out.mono ?_
  rintro z w1 ⟨rfl, hb1⟩
  have HB1 := hid (HB.out.trans (hb1.mono HB.out.size))
  clear hb1
  go_wp2
  go_ret
  exact ⟨rfl, HB1.out⟩
set_option maxRecDepth 100000 in
set_option maxHeartbeats 2000000 in
theorem markDesk (B M : Nat) (e : EngD) (vp vi : Value) (w : World) (hf : FewE e) (h : EOwnC w B M vp vi e) (hM : M ≤ w.heap.size) :
    Calls Tryz.prog 41 #[.agg #[vp, vi, .int .i64 e.now, .slice none 0 0], .int .i64 1] w fun z w' => z = .returned (.int .i64 (kE 1 e)) ∧ EOwnC w' B M vp vi (mkE 1 e) ∧ Chg (fun b => B ≤ b ∧ b < M) w w' := by
  obtain ⟨⟨a1, k1, rfl⟩, a2, k2, rfl⟩ := h.slices
  have hke := Eo.kE_pos hf (k0 := 1) (by omega)
  obtain ⟨w0, e0⟩ : ∃ w0, w0 = w.alloc (.cells #[.slice a1 e.procs.length k1, .slice a2 e.insts.length k2, .int .i64 e.now, .slice none 0 0] 30) := ⟨_, rfl⟩
  have hb0 : Below w.heap.size w w0 := by rw [e0]; exact (Below.refl _ w).alloc (Nat.le_refl _) _
  have K0 : Hid (w0.heap[w.heap.size]? = some (.cells #[.slice a1 e.procs.length k1, .slice a2 e.insts.length k2, .int .i64 e.now, .slice none 0 0] 30)) := hid (by rw [e0]; exact new_blk _ _)
  have HM := hid (Eo.markE B M 1 e _ _ w0 hf (by omega) (by omega) (h.below hb0))
  have HC0 : Hid (Chg (fun b => B ≤ b ∧ b < M) w w0) := hid (Chg.of_below hb0)
  have HMS := hid hM
  clear h hb0 hf hM
  go_enter Tryz.func41, Tryz.ntmps41
  go_wp2_with fail
  rw [← e0]
  clear e0
  refine HM.out.mono ?_
  rintro z w1 ⟨rfl, ho, hg⟩
  have hA := (hg.block _ (blk_lt K0.out) (fun hy => by have := HMS.out; omega)).trans K0.out
  have x3 : w1.cell? ⟨w.heap.size, 3, none⟩ = some (.slice none 0 0) := by rw [blk_cell hA]; rfl
  have lA := blk_lt hA
  have HO1 := hid ho
  have HW1 := hid (HC0.out.trans hg)
  clear ho hg hA K0 HM
  go_wp2_with fail
  refine (markClaimSNil (kE 1 e) _).mono ?_
  rintro z w2 ⟨rfl, hw2⟩
  replace hw2 := hw2.symm
  subst hw2
  go_wp2
  go_ret
  exact ⟨rfl, HO1.out, HW1.out⟩
set_option maxRecDepth 100000 in
set_option maxHeartbeats 2000000 in
theorem markWorld (B M : Nat) (e : EngD) (vp vi : Value) (w : World) (hf : FewE e) (h : EOwnC w B M vp vi e) (hM : M ≤ w.heap.size) :
    Calls Tryz.prog 25 #[.agg #[vp, vi, .int .i64 e.now, .slice none 0 0, .slice none 0 0, .slice none 0 0], .int .i64 1] w fun z w' => z = .returned (.int .i64 (kE 1 e)) ∧ EOwnC w' B M vp vi (mkE 1 e) ∧ Chg (fun b => B ≤ b ∧ b < M) w w' := by
  obtain ⟨⟨a1, k1, rfl⟩, a2, k2, rfl⟩ := h.slices
  have hke := Eo.kE_pos hf (k0 := 1) (by omega)
  obtain ⟨w0, e0⟩ : ∃ w0, w0 = w.alloc (.cells #[.slice a1 e.procs.length k1, .slice a2 e.insts.length k2, .int .i64 e.now, .slice none 0 0, .slice none 0 0, .slice none 0 0] 35) := ⟨_, rfl⟩
  have hb0 : Below w.heap.size w w0 := by rw [e0]; exact (Below.refl _ w).alloc (Nat.le_refl _) _
  have K0 : Hid (w0.heap[w.heap.size]? = some (.cells #[.slice a1 e.procs.length k1, .slice a2 e.insts.length k2, .int .i64 e.now, .slice none 0 0, .slice none 0 0, .slice none 0 0] 35)) := hid (by rw [e0]; exact new_blk _ _)
  have HM := hid (markDesk B M e _ _ w0 hf (h.below hb0) (Nat.le_trans hM hb0.size))
  have HC0 : Hid (Chg (fun b => B ≤ b ∧ b < M) w w0) := hid (Chg.of_below hb0)
  have HMS := hid hM
  clear h hb0 hf hM
  go_enter Tryz.func25, Tryz.ntmps25
  go_wp2_with fail
  rw [← e0]
  clear e0
  refine HM.out.mono ?_
  rintro z w1 ⟨rfl, ho, hg⟩
  have hA := (hg.block _ (blk_lt K0.out) (fun hy => by have := HMS.out; omega)).trans K0.out
  have x4 : w1.cell? ⟨w.heap.size, 4, none⟩ = some (.slice none 0 0) := by rw [blk_cell hA]; rfl
  have x5 : w1.cell? ⟨w.heap.size, 5, none⟩ = some (.slice none 0 0) := by rw [blk_cell hA]; rfl
  have lA := blk_lt hA
  have HO1 := hid ho
  have HW1 := hid (HC0.out.trans hg)
  clear ho hg hA K0 HM
  go_wp2_with fail
  refine (markJournalNil (kE 1 e) hke _).mono ?_
  rintro z w2 ⟨rfl, hw2⟩
  have HO2 := hid (HO1.out.below hw2)
  have HW2 : Hid (Chg (fun b => B ≤ b ∧ b < M) w w2) := hid (HW1.out.trans (Chg.of_below hw2))
  clear hw2
  go_wp2
  go_ret
  exact ⟨rfl, HO2.out, HW2.out⟩
set_option maxRecDepth 100000 in
set_option maxHeartbeats 2000000 in
theorem markWorldResult (B M : Nat) (cc : Int) (e : EngD) (vp vi : Value) (w : World) (hf : FewE e) (h : EOwnC w B M vp vi e) (hM : M ≤ w.heap.size) :
    Calls Tryz.prog 16 #[.agg #[.int .i64 cc, .int .i64 0, .int .i64 0, vp, vi, .int .i64 e.now, .slice none 0 0, .slice none 0 0, .slice none 0 0], .int .i64 1] w fun z w' => z = .returned (.int .i64 (kE 1 e)) ∧ EOwnC w' B M vp vi (mkE 1 e) ∧ Chg (fun b => B ≤ b ∧ b < M) w w' := by
  obtain ⟨⟨a1, k1, rfl⟩, a2, k2, rfl⟩ := h.slices
  have hke := Eo.kE_pos hf (k0 := 1) (by omega)
  obtain ⟨w0, e0⟩ : ∃ w0, w0 = w.alloc (.cells #[.int .i64 cc, .int .i64 0, .int .i64 0, .slice a1 e.procs.length k1, .slice a2 e.insts.length k2, .int .i64 e.now, .slice none 0 0, .slice none 0 0, .slice none 0 0] 37) := ⟨_, rfl⟩
  have hb0 : Below w.heap.size w w0 := by rw [e0]; exact (Below.refl _ w).alloc (Nat.le_refl _) _
  have HM := hid (markWorld B M e _ _ w0 hf (h.below hb0) (Nat.le_trans hM hb0.size))
  have HC0 : Hid (Chg (fun b => B ≤ b ∧ b < M) w w0) := hid (Chg.of_below hb0)
  have HMS := hid hM
  clear h hb0 hf hM
  go_enter Tryz.func16, Tryz.ntmps16
  go_wp2_with fail
  rw [← e0]
  clear e0
  refine HM.out.mono ?_
  rintro z w1 ⟨rfl, ho, hg⟩
  have HO1 := hid ho
  have HW1 := hid (HC0.out.trans hg)
  clear ho hg
  go_wp2
  go_ret
  exact ⟨rfl, HO1.out, HW1.out⟩
set_option maxRecDepth 100000 in
set_option maxHeartbeats 2000000 in
theorem heldDesk (B : Nat) (e : EngD) (n : Int) (vp vi : Value) (w : World) (hf : FewE e) (h : En.At w B vp vi (mkE 1 e)) :
    Calls Tryz.prog 92 #[.agg #[vp, vi, .int .i64 n, .slice none 0 0], .int .i64 1] w fun z w' => z = .returned (.int .i64 (kE 1 e)) ∧ Below w.heap.size w w' := by
  obtain ⟨a1, k1, hv1⟩ := h.procs.slice
  obtain ⟨a2, k2, hv2⟩ := h.insts.slice
  rw [Eo.mkE_np] at hv1
  rw [Eo.mkE_ni] at hv2
  subst hv1 hv2
  have hke := Eo.kE_pos hf (k0 := 1) (by omega)
  have q3 : ¬ kE 1 e < 0 := by omega
  obtain ⟨w0, e0⟩ : ∃ w0, w0 = w.alloc (.cells #[.slice a1 e.procs.length k1, .slice a2 e.insts.length k2, .int .i64 n, .slice none 0 0] 30) := ⟨_, rfl⟩
  have hb0 : Below w.heap.size w w0 := by rw [e0]; exact (Below.refl _ w).alloc (Nat.le_refl _) _
  have K0 : Hid (w0.heap[w.heap.size]? = some (.cells #[.slice a1 e.procs.length k1, .slice a2 e.insts.length k2, .int .i64 n, .slice none 0 0] 30)) := hid (by rw [e0]; exact new_blk _ _)
  have HM := hid (Eo.heldE B 1 e n _ _ w0 hf (by omega) (by omega) (h.below hb0))
  have HB := hid hb0
  clear h hb0 hf
  go_enter Tryz.func92, Tryz.ntmps92
  go_wp2_with fail
  rw [← e0]
  clear e0
  refine HM.out.mono ?_
  rintro z w1 ⟨rfl, hb1⟩
  have HB1 := hid (HB.out.trans (hb1.mono HB.out.size))
  have hA := (hb1.block _ (blk_lt K0.out)).trans K0.out
  have x3 : w1.cell? ⟨w.heap.size, 3, none⟩ = some (.slice none 0 0) := by rw [blk_cell hA]; rfl
  have lA := blk_lt hA
  clear hb1 hA K0 HM
  go_wp2_with fail
  refine (heldClaimSNil (kE 1 e) _).mono ?_
  rintro z w2 ⟨rfl, hw2⟩
  replace hw2 := hw2.symm
  subst hw2
  go_wp2
  go_ret
  exact ⟨rfl, HB1.out⟩
set_option maxRecDepth 100000 in
set_option maxHeartbeats 2000000 in
theorem heldWorld (B : Nat) (e : EngD) (n : Int) (vp vi : Value) (w : World) (hf : FewE e) (h : En.At w B vp vi (mkE 1 e)) :
    Calls Tryz.prog 53 #[.agg #[vp, vi, .int .i64 n, .slice none 0 0, .slice none 0 0, .slice none 0 0], .int .i64 1] w fun z w' => z = .returned (.int .i64 (kE 1 e)) ∧ Below w.heap.size w w' := by
  obtain ⟨a1, k1, hv1⟩ := h.procs.slice
  obtain ⟨a2, k2, hv2⟩ := h.insts.slice
  rw [Eo.mkE_np] at hv1
  rw [Eo.mkE_ni] at hv2
  subst hv1 hv2
  have hke := Eo.kE_pos hf (k0 := 1) (by omega)
  have q3 : ¬ kE 1 e < 0 := by omega
  obtain ⟨w0, e0⟩ : ∃ w0, w0 = w.alloc (.cells #[.slice a1 e.procs.length k1, .slice a2 e.insts.length k2, .int .i64 n, .slice none 0 0, .slice none 0 0, .slice none 0 0] 35) := ⟨_, rfl⟩
  have hb0 : Below w.heap.size w w0 := by rw [e0]; exact (Below.refl _ w).alloc (Nat.le_refl _) _
  have K0 : Hid (w0.heap[w.heap.size]? = some (.cells #[.slice a1 e.procs.length k1, .slice a2 e.insts.length k2, .int .i64 n, .slice none 0 0, .slice none 0 0, .slice none 0 0] 35)) := hid (by rw [e0]; exact new_blk _ _)
  have HM := hid (heldDesk B e n _ _ w0 hf (h.below hb0))
  have HB := hid hb0
  clear h hb0 hf
  go_enter Tryz.func53, Tryz.ntmps53
  go_wp2_with fail
  rw [← e0]
  clear e0
  refine HM.out.mono ?_
  rintro z w1 ⟨rfl, hb1⟩
  have HB1 := hid (HB.out.trans (hb1.mono HB.out.size))
  have hA := (hb1.block _ (blk_lt K0.out)).trans K0.out
  have x4 : w1.cell? ⟨w.heap.size, 4, none⟩ = some (.slice none 0 0) := by rw [blk_cell hA]; rfl
  have x5 : w1.cell? ⟨w.heap.size, 5, none⟩ = some (.slice none 0 0) := by rw [blk_cell hA]; rfl
  have lA := blk_lt hA
  clear hb1 hA K0 HM
  go_wp2_with fail
  refine (heldJournalNil (kE 1 e) hke _).mono ?_
  rintro z w2 ⟨rfl, hw2⟩
  have HB2 := hid (HB1.out.trans (hw2.mono HB1.out.size))
  clear hw2
  go_wp2
  go_ret
  exact ⟨rfl, HB2.out⟩
set_option maxRecDepth 100000 in
set_option maxHeartbeats 2000000 in
theorem heldWorldResult (B : Nat) (cc : Int) (e : EngD) (n : Int) (vp vi : Value) (w : World) (hf : FewE e) (h : En.At w B vp vi (mkE 1 e)) :
    Calls Tryz.prog 17 #[.agg #[.int .i64 cc, .int .i64 0, .int .i64 0, vp, vi, .int .i64 n, .slice none 0 0, .slice none 0 0, .slice none 0 0], .int .i64 1] w fun z w' => z = .returned (.int .i64 (kE 1 e)) ∧ Below w.heap.size w w' := by
  obtain ⟨a1, k1, hv1⟩ := h.procs.slice
  obtain ⟨a2, k2, hv2⟩ := h.insts.slice
  rw [Eo.mkE_np] at hv1
  rw [Eo.mkE_ni] at hv2
  subst hv1 hv2
  have hke := Eo.kE_pos hf (k0 := 1) (by omega)
  have q3 : ¬ kE 1 e < 0 := by omega
  obtain ⟨w0, e0⟩ : ∃ w0, w0 = w.alloc (.cells #[.int .i64 cc, .int .i64 0, .int .i64 0, .slice a1 e.procs.length k1, .slice a2 e.insts.length k2, .int .i64 n, .slice none 0 0, .slice none 0 0, .slice none 0 0] 37) := ⟨_, rfl⟩
  have hb0 : Below w.heap.size w w0 := by rw [e0]; exact (Below.refl _ w).alloc (Nat.le_refl _) _
  have HM := hid (heldWorld B e n _ _ w0 hf (h.below hb0))
  have HB := hid hb0
  clear h hb0 hf
  go_enter Tryz.func17, Tryz.ntmps17
  go_wp2_with fail
  rw [← e0]
  clear e0
  refine HM.out.mono ?_
  rintro z w1 ⟨rfl, hb1⟩
  have HB1 := hid (HB.out.trans (hb1.mono HB.out.size))
  clear hb1
  go_wp2
  go_ret
  exact ⟨rfl, HB1.out⟩
end Wn
end Go.Proofs.YtccklgopcjilcaaGreatDoor
