/- Laid together: EoQ, EoR, EmA, GoM. -/
import Derived.Test.YtkelmhkakdeghaaGreatDoorJNE49
import Derived.Test.YtkelmhkakdeghaaGreatDoorJNE20
import Derived.Test.YtkelmhkakdeghaaGreatDoorJNE16
import Derived.Test.YtkelmhkakdeghaaGreatDoorJNE6
/- The law's marks in an engine that a function has made itself, whether they hold, and the comparison of two answers. -/
namespace Go.Proofs.YtkelmhkakdeghaaGreatDoor
open Go.RowKit Go.Deep
set_option linter.unusedVariables false
namespace Eo
open Ex (hid)
open St (StepD)
open Ei (InstD)
open En (EngD)
open Nst (own own_lt)
open Ch (blk_cell new_blk blk_lt new_at)
def mkE (k0 : Nat) (e : EngD) : EngD := ⟨mkP k0 e.procs, mkI (kP k0 e.procs e.procs.length) e.insts, e.now⟩
def kE (k0 : Nat) (e : EngD) : Int := kI (kP k0 e.procs e.procs.length) e.insts e.insts.length
structure FewE (e : EngD) : Prop where
  procs : FewP e.procs
  insts : FewI e.insts
/-- An engine of one's own, between two blocks. -/
def EOwnC (w : World) (B M : Nat) (vp vi : Value) (e : EngD) : Prop := ∃ pv C E pl ph u1 u2 u3 il ih, PRow w B vp e.procs pv C E pl ph ∧ IRow w B vi e.insts u1 u2 u3 il ih ∧
  (∀ b, own vp b ∨ InI e.procs.length pl ph b → ¬ (own vi b ∨ InI e.insts.length il ih b)) ∧ ∀ b, (own vp b ∨ InI e.procs.length pl ph b) ∨ own vi b ∨ InI e.insts.length il ih b → b < M
theorem EOwnC.of {w : World} {B : Nat} {vp vi : Value} {e : EngD} (h : EOwn w B vp vi e) : EOwnC w B w.heap.size vp vi e := by
  obtain ⟨pv, C, E, pl, ph, u1, u2, u3, il, ih, h1, h2, h3⟩ := h
  exact ⟨pv, C, E, pl, ph, u1, u2, u3, il, ih, h1, h2, h3, fun b h => by rcases h with h | h; exact (h1.in h).2; exact (h2.in h).2⟩
theorem EOwnC.own {w : World} {B M : Nat} {vp vi : Value} {e : EngD} (h : EOwnC w B M vp vi e) : EOwn w B vp vi e := by
  obtain ⟨pv, C, E, pl, ph, u1, u2, u3, il, ih, h1, h2, h3, _⟩ := h
  exact ⟨pv, C, E, pl, ph, u1, u2, u3, il, ih, h1, h2, h3⟩
theorem EOwnC.keep {w w' : World} {B M : Nat} {vp vi : Value} {e : EngD} (h : EOwnC w B M vp vi e) (hs : w.heap.size ≤ w'.heap.size) (hb : ∀ b, B ≤ b → b < M → b < w.heap.size → w'.heap[b]? = w.heap[b]?) : EOwnC w' B M vp vi e := by
  obtain ⟨pv, C, E, pl, ph, u1, u2, u3, il, ih, h1, h2, h3, h4⟩ := h
  exact ⟨pv, C, E, pl, ph, u1, u2, u3, il, ih, h1.kept hs (fun b hx hl => hb b (h1.in hx).1 (h4 b (.inl hx)) hl), h2.kept hs (fun b hx hl => hb b (h2.in hx).1 (h4 b (.inr hx)) hl), h3, h4⟩
theorem EOwnC.below {w w' : World} {B M : Nat} {vp vi : Value} {e : EngD} (h : EOwnC w B M vp vi e) (hb : Below w.heap.size w w') : EOwnC w' B M vp vi e := h.keep hb.size (fun b _ _ hl => hb.block b hl)
theorem EOwnC.slices {w : World} {B M : Nat} {vp vi : Value} {e : EngD} (h : EOwnC w B M vp vi e) : (∃ a k, vp = .slice a e.procs.length k) ∧ ∃ a k, vi = .slice a e.insts.length k := by
  obtain ⟨_, _, _, _, _, _, _, _, _, _, h1, h2, _⟩ := h
  exact ⟨Nst.own_slice h1.row, Nst.own_slice h2.row⟩
theorem mkE_np (k0 : Nat) (e : EngD) : (mkE k0 e).procs.length = e.procs.length := mkP_len _ _
theorem mkE_ni (k0 : Nat) (e : EngD) : (mkE k0 e).insts.length = e.insts.length := mkI_len _ _
set_option maxRecDepth 100000 in
set_option maxHeartbeats 2000000 in
theorem markE (B M k0 : Nat) (e : EngD) (vp vi : Value) (w : World) (hf : FewE e) (h0 : 0 < k0) (hk0 : k0 ≤ 800000) (h : EOwnC w B M vp vi e) :
    Calls Tryz.prog 24 #[.agg #[vp, vi, .int .i64 e.now], .int .i64 (k0 : Int)] w fun z w' => z = .returned (.int .i64 (kE k0 e)) ∧ EOwnC w' B M vp vi (mkE k0 e) ∧ Chg (fun b => B ≤ b ∧ b < M) w w' := by
  obtain ⟨⟨a1, k1, rfl⟩, a2, k2, rfl⟩ := h.slices
  obtain ⟨w0, e0⟩ : ∃ w0, w0 = w.alloc (.cells #[.slice a1 e.procs.length k1, .slice a2 e.insts.length k2, .int .i64 e.now] 27) := ⟨_, rfl⟩
  have hb0 : Below w.heap.size w w0 := by rw [e0]; exact (Below.refl _ w).alloc (Nat.le_refl _) _
  have K0 : w0.heap[w.heap.size]? = some (.cells #[.slice a1 e.procs.length k1, .slice a2 e.insts.length k2, .int .i64 e.now] 27) := by rw [e0]; exact new_blk _ _
  obtain ⟨pv, C, E, pl, ph, u1, u2, u3, il, ih, h1, h2, h3, h4⟩ := h
  have hin1 : ∀ b, InI e.procs.length pl ph b → b < w.heap.size := fun b hx => (h1.in (.inr hx)).2
  have HS : Hid (∀ b, InI e.procs.length pl ph b → B ≤ b ∧ b < M) := hid (fun b hx => ⟨(h1.in (.inr hx)).1, h4 b (.inl (.inr hx))⟩)
  have HT : Hid (∀ b, own (.slice a2 e.insts.length k2) b ∨ InI e.insts.length il ih b → B ≤ b ∧ b < M) := hid (fun b hx => ⟨(h2.in hx).1, h4 b (.inr hx)⟩)
  have H3 := hid h3
  have H4 := hid h4
  have HI0 := hid (h2.below hb0)
  have HM1 := hid (markP B k0 e.procs _ pv C E pl ph w0 hf.procs h0 hk0 (h1.below hb0))
  have HF := hid hf
  have HC0 : Hid (Chg (fun b => B ≤ b ∧ b < M) w w0) := hid (Chg.of_below hb0)
  have HN := hid hin1
  have hkp := kP_le (k0 := k0) hf.procs e.procs.length (Nat.le_refl _)
  have hpp := kP_pos h0 e.procs e.procs.length
  have hl := hf.procs.len
  have hkb : (kP k0 e.procs e.procs.length : Int) ≤ 1000000 := by omega
  clear h1 h2 h3 h4 hb0 hin1 hf hkp hl
  go_enter Tryz.func24, Tryz.ntmps24
  go_wp2_with fail
  rw [← e0]
  clear e0
  refine HM1.out.mono ?_
  rintro z w1 ⟨rfl, hp1, hc1⟩
  have HP1 := hid hp1
  have HI1 := hid (HI0.out.kept hc1.size (fun b hx hl => hc1.block b hl (fun hy => H3.out b (.inr hy) hx)))
  have K1 : w1.heap[w.heap.size]? = some (.cells #[.slice a1 e.procs.length k1, .slice a2 e.insts.length k2, .int .i64 e.now] 27) := (hc1.block _ (blk_lt K0) (fun hy => by have := HN.out _ hy; omega)).trans K0
  have c1 : w1.cell? ⟨w.heap.size, 1, none⟩ = some (.slice a2 e.insts.length k2) := by rw [blk_cell K1]; rfl
  have m1 := blk_lt K1
  have HC1 : Hid (Chg (fun b => B ≤ b ∧ b < M) w w1) := hid (HC0.out.trans (hc1.mono HS.out))
  have HM2 := hid (markI B (kP k0 e.procs e.procs.length : Int) e.insts _ u1 u2 u3 il ih w1 HF.out.insts (by omega) hkb HI1.out)
  clear hp1 hc1 K0 K1 HM1
  go_wp2_with fail
  refine HM2.out.mono ?_
  rintro z w2 ⟨rfl, hi2, hc2⟩
  have HO : Hid (EOwnC w2 B M (.slice a1 e.procs.length k1) (.slice a2 e.insts.length k2) (mkE k0 e)) := hid (by
    refine ⟨pv, C, E, pl, ph, u1, u2, u3, il, ih, HP1.out.kept hc2.size (fun b hx hl => hc2.block b hl (fun hy => ?_)), hi2, ?_, ?_⟩
    · rw [mkP_len] at hx; exact H3.out b hx hy
    · rw [mkE_np, mkE_ni]; exact H3.out
    · rw [mkE_np, mkE_ni]; exact H4.out)
  have HC2 : Hid (Chg (fun b => B ≤ b ∧ b < M) w w2) := hid (HC1.out.trans (hc2.mono HT.out))
  clear hi2 hc2
  go_wp2
  go_ret
  exact ⟨rfl, HO.out, HC2.out⟩
set_option maxRecDepth 100000 in
set_option maxHeartbeats 2000000 in
theorem markER (B M : Nat) (e : EngD) (cc vv : Int) (vp vi : Value) (w : World) (hf : FewE e) (h : EOwnC w B M vp vi e) :
    Calls Tryz.prog 17 #[.agg #[.int .i64 cc, .int .i64 vv, vp, vi, .int .i64 e.now], .int .i64 1] w fun z w' => z = .returned (.int .i64 (kE 1 e)) ∧ EOwnC w' B M vp vi (mkE 1 e) ∧ Chg (fun b => B ≤ b ∧ b < M) w w' := by
  obtain ⟨⟨a1, k1, rfl⟩, a2, k2, rfl⟩ := h.slices
  obtain ⟨w0, e0⟩ : ∃ w0, w0 = w.alloc (.cells #[.int .i64 cc, .int .i64 vv, .slice a1 e.procs.length k1, .slice a2 e.insts.length k2, .int .i64 e.now] 29) := ⟨_, rfl⟩
  have hb0 : Below w.heap.size w w0 := by rw [e0]; exact (Below.refl _ w).alloc (Nat.le_refl _) _
  have HM := hid (markE B M 1 e _ _ w0 hf (by omega) (by omega) (h.below hb0))
  have HC0 : Hid (Chg (fun b => B ≤ b ∧ b < M) w w0) := hid (Chg.of_below hb0)
  clear h hb0 hf
  go_enter Tryz.func17, Tryz.ntmps17
  go_wp2_with fail
  rw [← e0]
  clear e0
  refine HM.out.mono ?_
  rintro z w1 ⟨rfl, ho, hg⟩
  have HO1 := hid ho
  have HW1 := hid (HC0.out.trans hg)
  clear ho hg
  go_wp2
  go_ret
  exact ⟨rfl, HO1.out, HW1.out⟩
end Eo
end Go.Proofs.YtkelmhkakdeghaaGreatDoor
/- Whether the law's marks still stand in an engine that a function has made itself, and the comparison of two answers. -/
namespace Go.Proofs.YtkelmhkakdeghaaGreatDoor
open Go.RowKit Go.Deep
set_option linter.unusedVariables false
namespace Eo
open Ex (hid)
open St (StepD)
open Ei (InstD)
open En (EngD)
open Nst (own own_lt)
open Ch (blk_cell new_blk blk_lt new_at)
theorem kE_pos {k0 : Nat} {e : EngD} (hf : FewE e) (h0 : 0 < k0) : 0 < kE k0 e := by
  have h1 := kI_le (k0 := (kP k0 e.procs e.procs.length : Int)) hf.insts e.insts.length (Nat.le_refl _)
  have h2 := kP_pos h0 e.procs e.procs.length
  unfold kE; omega
set_option maxRecDepth 100000 in
set_option maxHeartbeats 2000000 in
theorem heldE (B k0 : Nat) (e : EngD) (n : Int) (vp vi : Value) (w : World) (hf : FewE e) (h0 : 0 < k0) (hk0 : k0 ≤ 800000) (h : En.At w B vp vi (mkE k0 e)) :
    Calls Tryz.prog 54 #[.agg #[vp, vi, .int .i64 n], .int .i64 (k0 : Int)] w fun z w' => z = .returned (.int .i64 (kE k0 e)) ∧ Below w.heap.size w w' := by
  obtain ⟨a1, k1, hv1⟩ := h.procs.slice
  obtain ⟨a2, k2, hv2⟩ := h.insts.slice
  rw [mkE_np] at hv1
  rw [mkE_ni] at hv2
  subst hv1 hv2
  obtain ⟨w0, e0⟩ : ∃ w0, w0 = w.alloc (.cells #[.slice a1 e.procs.length k1, .slice a2 e.insts.length k2, .int .i64 n] 27) := ⟨_, rfl⟩
  have hb0 : Below w.heap.size w w0 := by rw [e0]; exact (Below.refl _ w).alloc (Nat.le_refl _) _
  have K0 : w0.heap[w.heap.size]? = some (.cells #[.slice a1 e.procs.length k1, .slice a2 e.insts.length k2, .int .i64 n] 27) := by rw [e0]; exact new_blk _ _
  have HI0 := hid (h.below hb0).insts
  have HM1 := hid (heldP B k0 e.procs _ w0 hf.procs h0 hk0 (h.below hb0).procs)
  have HF := hid hf
  have HB0 := hid hb0
  have hkp := kP_le (k0 := k0) hf.procs e.procs.length (Nat.le_refl _)
  have hpp := kP_pos h0 e.procs e.procs.length
  have hl := hf.procs.len
  have hkb : (kP k0 e.procs e.procs.length : Int) ≤ 1000000 := by omega
  have q1 : ¬ (kP k0 e.procs e.procs.length : Int) < 0 := by omega
  have hke := kE_pos hf h0
  have q2 : ¬ kI (kP k0 e.procs e.procs.length : Int) e.insts e.insts.length < 0 := by unfold kE at hke; omega
  clear h hb0 hf hkp hl hke
  go_enter Tryz.func54, Tryz.ntmps54
  go_wp2_with fail
  rw [← e0]
  clear e0
  refine HM1.out.mono ?_
  rintro z w1 ⟨rfl, hb1⟩
  have HB1 := hid (HB0.out.trans (hb1.mono HB0.out.size))
  have K1 : w1.heap[w.heap.size]? = some (.cells #[.slice a1 e.procs.length k1, .slice a2 e.insts.length k2, .int .i64 n] 27) := (hb1.block _ (blk_lt K0)).trans K0
  have c1 : w1.cell? ⟨w.heap.size, 1, none⟩ = some (.slice a2 e.insts.length k2) := by rw [blk_cell K1]; rfl
  have m1 := blk_lt K1
  have HM2 := hid (heldI B (kP k0 e.procs e.procs.length : Int) e.insts _ w1 HF.out.insts (by omega) hkb (HI0.out.below hb1))
  clear hb1 K0 K1 HM1 hpp
  go_wp2_with fail
  refine HM2.out.mono ?_
  rintro z w2 ⟨rfl, hb2⟩
  have HB2 := hid (HB1.out.trans (hb2.mono HB1.out.size))
  clear hb2
  go_wp2
  go_ret
  exact ⟨rfl, HB2.out⟩
set_option maxRecDepth 100000 in
set_option maxHeartbeats 2000000 in
theorem heldER (B : Nat) (e : EngD) (cc vv n : Int) (vp vi : Value) (w : World) (hf : FewE e) (h : En.At w B vp vi (mkE 1 e)) :
    Calls Tryz.prog 18 #[.agg #[.int .i64 cc, .int .i64 vv, vp, vi, .int .i64 n], .int .i64 1] w fun z w' => z = .returned (.int .i64 (kE 1 e)) ∧ Below w.heap.size w w' := by
  obtain ⟨a1, k1, hv1⟩ := h.procs.slice
  obtain ⟨a2, k2, hv2⟩ := h.insts.slice
  rw [mkE_np] at hv1
  rw [mkE_ni] at hv2
  subst hv1 hv2
  obtain ⟨w0, e0⟩ : ∃ w0, w0 = w.alloc (.cells #[.int .i64 cc, .int .i64 vv, .slice a1 e.procs.length k1, .slice a2 e.insts.length k2, .int .i64 n] 29) := ⟨_, rfl⟩
  have hb0 : Below w.heap.size w w0 := by rw [e0]; exact (Below.refl _ w).alloc (Nat.le_refl _) _
  have HM := hid (heldE B 1 e n _ _ w0 hf (by omega) (by omega) (h.below hb0))
  have HB := hid hb0
  have hke := kE_pos hf (k0 := 1) (by omega)
  have q3 : ¬ kE 1 e < 0 := by omega
  clear h hb0 hf hke
  go_enter Tryz.func18, Tryz.ntmps18
  go_wp2_with fail
  rw [← e0]
  clear e0
  refine HM.out.mono ?_
  rintro z w1 ⟨rfl, hb1⟩
  have HB1 := hid (HB.out.trans (hb1.mono HB.out.size))
  clear hb1
  go_wp2
  go_ret
  exact ⟨rfl, HB1.out⟩
set_option maxRecDepth 100000 in
set_option maxHeartbeats 2000000 in
theorem eqER (B1 B2 : Nat) (cc vv : Int) (e : EngD) (vp vi up ui : Value) (w : World) (hl : En.Small 1048576 e) (h1 : En.At w B1 vp vi e) (h2 : En.At w B2 up ui e) :
    Calls Tryz.prog 14 #[.agg #[.int .i64 cc, .int .i64 vv, vp, vi, .int .i64 e.now], .agg #[.int .i64 cc, .int .i64 vv, up, ui, .int .i64 e.now]] w fun z w' => z = .returned (.bool true) ∧ Below w.heap.size w w' := by
  obtain ⟨a1, k1, rfl⟩ := h1.procs.slice
  obtain ⟨a2, k2, rfl⟩ := h1.insts.slice
  obtain ⟨b1, l1, rfl⟩ := h2.procs.slice
  obtain ⟨b2, l2, rfl⟩ := h2.insts.slice
  have e1 : (cc != cc) = false := by simp
  have e2 : (vv != vv) = false := by simp
  obtain ⟨w0, e0⟩ : ∃ w0, w0 = (w.alloc (.cells #[.int .i64 cc, .int .i64 vv, .slice a1 e.procs.length k1, .slice a2 e.insts.length k2, .int .i64 e.now] 29)).alloc (.cells #[.int .i64 cc, .int .i64 vv, .slice b1 e.procs.length l1, .slice b2 e.insts.length l2, .int .i64 e.now] 29) := ⟨_, rfl⟩
  have hb0 : Below w.heap.size w w0 := by rw [e0]; exact ((Below.refl _ w).alloc (Nat.le_refl _) _).alloc (by simp) _
  have HE := hid (En.eq B1 B2 e _ _ _ _ w0 hl (h1.below hb0) (h2.below hb0))
  have HB := hid hb0
  clear h1 h2 hl hb0
  go_enter Tryz.func14, Tryz.ntmps14
  go_wp2_with fail
  rw [← e0]
  clear e0
  refine HE.out.mono ?_
  rintro z w1 ⟨rfl, hb1⟩
  have HB1 := hid (HB.out.trans (hb1.mono HB.out.size))
  clear hb1
  go_wp2
  go_ret
  exact ⟨rfl, HB1.out⟩
end Eo
end Go.Proofs.YtkelmhkakdeghaaGreatDoor
/- The law's marks in rows of processes and of steps that it has handed in: they are written into these rows alone. -/
namespace Go.Proofs.YtkelmhkakdeghaaGreatDoor
open Go.RowKit
set_option linter.unusedVariables false
namespace St
open Ex (hid)
open Nd (NodeD)
theorem wt_take_le (ss : List StepD) (k : Nat) : wt (ss.take k) ≤ wt ss := by
  induction ss generalizing k with
  | nil => simp [wt]
  | cons s ss ih =>
    cases k with
    | zero => simp [wt]
    | succ k => have := ih k; simp only [List.take_succ_cons, wt]; omega
theorem len_le_wt (ss : List StepD) : ss.length ≤ wt ss := by
  induction ss with
  | nil => simp [wt]
  | cons s ss ih => simp only [List.length_cons, wt]; omega
set_option maxRecDepth 100000 in
set_option maxHeartbeats 8000000 in
theorem markSteps2 (B C : Nat) (v : Value) (ss : List StepD) (k0 : Int) (w : World) (h0 : 1 ≤ k0) (hk0 : k0 ≤ 1000000000) (hwt : wt ss ≤ 1048576) (h : Own w B C v ss.length (lenC ss) (lenE ss)) :
    Calls Tryz.prog 53 #[v, .int .i64 k0] w fun e w' => (∃ r : Int, e = .returned (.int .i64 r) ∧ k0 ≤ r ∧ r ≤ k0 + 4 * (wt ss : Int)) ∧ Amid w w' B C := by
  obtain ⟨g, f, rfl, hB, hC, hr, ho⟩ := h
  have HR := hid hr
  have HO := hid ho
  have HS : Hid (∀ j, j < ss.length → wt (ss.take j) + 1 + lenC ss j + lenE ss j ≤ wt (ss.take (j + 1))) := hid (fun j hj => by
    rw [wt_take hj, lenC_eq hj, lenE_eq hj]; unfold wt1; omega)
  have HT : Hid (∀ j, wt (ss.take j) ≤ 1048576) := hid (fun j => Nat.le_trans (wt_take_le ss j) hwt)
  have HE : Hid (wt (ss.take ss.length) = wt ss) := hid (by rw [List.take_of_length_le (Nat.le_refl _)])
  have hwt0 : (wt ss : Int) ≤ 1048576 := by omega
  obtain ⟨n, hn⟩ : ∃ n, Hid (n = ss.length) := ⟨_, hid rfl⟩
  rw [← hn.out] at HR HO HS HE ⊢
  have hn2 : n ≤ 1048576 := by rw [hn.out]; exact Nat.le_trans (len_le_wt ss) hwt
  obtain ⟨mc, hmcE⟩ : ∃ mc, Hid (mc = lenC ss) := ⟨_, hid rfl⟩
  obtain ⟨me, hmeE⟩ : ∃ me, Hid (me = lenE ss) := ⟨_, hid rfl⟩
  rw [← hmcE.out] at HO HS
  rw [← hmeE.out] at HO HS
  obtain ⟨W, hW⟩ : ∃ W : Nat → Nat, Hid (W = fun j => wt (ss.take j)) := ⟨_, hid rfl⟩
  replace HS : Hid (∀ j, j < n → W j + 1 + mc j + me j ≤ W (j + 1)) := hid (fun j hj => by rw [hW.out]; exact HS.out j hj)
  replace HT : Hid (∀ j, W j ≤ 1048576) := hid (fun j => by rw [hW.out]; exact HT.out j)
  replace HE : Hid (W n = wt ss) := hid (by rw [hW.out]; exact HE.out)
  have hW0 : W 0 = 0 := by rw [hW.out]; rfl
  have HW0 := hid hW0
  clear hr ho hwt hwt0 hW0
  go_enter Tryz.func53, Tryz.ntmps53
  go_wp2
  go_loopw [1, 5] (fun q i wr => ∃ (j : Nat) (k : Int) (f' : Nat → Value), i = .int .i64 j ∧ q = .int .i64 k ∧ k0 ≤ k ∧ k ≤ k0 + 4 * (W j : Int) ∧ j ≤ n ∧ Hid (wr.rowIs g 149 (n * 6) f') ∧ Hid (∀ i, i < n → Nd.Own wr (g + 1) C (f' (i * 6 + 4)) (mc i) ∧ Nd.Own wr (g + 1) C (f' (i * 6 + 5)) (me i)) ∧ Hid (Amid w wr B C)) (fun _ i _ => n - (intOf i).toNat)
  case atStart => exact ⟨0, k0, f, rfl, rfl, by omega, by rw [HW0.out]; omega, Nat.zero_le _, HR, HO, hid (Amid.refl _ _ _)⟩
  case round =>
    obtain ⟨j, k, f', rfl, rfl, hk1, hk2, hj, HW, HV, HAM⟩ := hrel
    by_cases hlt : j < n
    · have q1 : (j : Int) < (n : Int) := by omega
      have hws := HS.out j hlt
      have hwt := HT.out (j + 1)
      have hmj : mc j ≤ 1048576 := by omega
      have hmj2 : me j ≤ 1048576 := by omega
      have d0 := HW.out.cell (i := j * 6) (by omega)
      have d1 := HW.out.cell (i := j * 6 + 1) (by omega)
      have z0 := HW.out.frozen (j * 6)
      have z1 := HW.out.frozen (j * 6 + 1)
      have hgl := HW.out.lt
      have HR1 := hid ((HW.out.set (j * 6) (.int .i64 k)).set (j * 6 + 1) (.int .i64 (k + 1)))
      have HA1 := hid ((HAM.out.trans (Amid.set wr (j * 6) (.int .i64 k) hB hC)).trans (Amid.set _ (j * 6 + 1) (.int .i64 (k + 1)) hB hC))
      have HV1 : Hid (∀ i, i < n → Nd.Own ((wr.setCell ⟨g, j * 6, none⟩ (.int .i64 k)).setCell ⟨g, j * 6 + 1, none⟩ (.int .i64 (k + 1))) (g + 1) C (f' (i * 6 + 4)) (mc i) ∧ Nd.Own ((wr.setCell ⟨g, j * 6, none⟩ (.int .i64 k)).setCell ⟨g, j * 6 + 1, none⟩ (.int .i64 (k + 1))) (g + 1) C (f' (i * 6 + 5)) (me i)) := hid (fun i hi => ⟨ownSet (ownSet (HV.out i hi).1 (by omega) _) (by omega) _, ownSet (ownSet (HV.out i hi).2 (by omega) _) (by omega) _⟩)
      go_wp2_with fail
      generalize (wr.setCell ⟨g, j * 6, none⟩ (.int .i64 k)).setCell ⟨g, j * 6 + 1, none⟩ (.int .i64 (k + 1)) = wA at *
      refine (markText' _ _ (by omega) (by omega)).mono ?_
      rintro e w1 ⟨⟨s1, rfl⟩, hb1⟩
      have hr1 := HR1.out.of_block (w' := w1) (hb1.block _ HR1.out.lt)
      have d2 := hr1.cell (i := j * 6 + 2) (by omega)
      have d3 := hr1.cell (i := j * 6 + 3) (by omega)
      have z2 := hr1.frozen (j * 6 + 2)
      have z3 := hr1.frozen (j * 6 + 3)
      have hgl1 := hr1.lt
      have HR2 := hid ((hr1.set (j * 6 + 2) (.string s1)).set (j * 6 + 3) (.int .i64 (k + 1 + 1 + 1)))
      have HA2 := hid (((HA1.out.trans (Amid.of_below hb1)).trans (Amid.set w1 (j * 6 + 2) (.string s1) hB hC)).trans (Amid.set _ (j * 6 + 3) (.int .i64 (k + 1 + 1 + 1)) hB hC))
      have HV2 : Hid (∀ i, i < n → Nd.Own ((w1.setCell ⟨g, j * 6 + 2, none⟩ (.string s1)).setCell ⟨g, j * 6 + 3, none⟩ (.int .i64 (k + 1 + 1 + 1))) (g + 1) C (f' (i * 6 + 4)) (mc i) ∧ Nd.Own ((w1.setCell ⟨g, j * 6 + 2, none⟩ (.string s1)).setCell ⟨g, j * 6 + 3, none⟩ (.int .i64 (k + 1 + 1 + 1))) (g + 1) C (f' (i * 6 + 5)) (me i)) := hid (fun i hi => ⟨ownSet (ownSet (ownBelow (HV1.out i hi).1 hb1) (by omega) _) (by omega) _, ownSet (ownSet (ownBelow (HV1.out i hi).2 hb1) (by omega) _) (by omega) _⟩)
      generalize hF2 : (fun i => if i = j * 6 + 3 then Value.int .i64 (k + 1 + 1 + 1) else (fun i => if i = j * 6 + 2 then Value.string s1 else (fun i => if i = j * 6 + 1 then Value.int .i64 (k + 1) else (fun i => if i = j * 6 then Value.int .i64 k else f' i) i) i) i) = F2 at *
      have e4 : ∀ i, F2 (i * 6 + 4) = f' (i * 6 + 4) := fun i => by
        have h1 : ¬ i * 6 + 4 = j * 6 + 3 := by omega
        have h2 : ¬ i * 6 + 4 = j * 6 + 2 := by omega
        have h3 : ¬ i * 6 + 4 = j * 6 + 1 := by omega
        have h4 : ¬ i * 6 + 4 = j * 6 := by omega
        rw [← hF2]
        simp only [h1, h2, h3, h4, if_false]
      have e5 : ∀ i, F2 (i * 6 + 5) = f' (i * 6 + 5) := fun i => by
        have h1 : ¬ i * 6 + 5 = j * 6 + 3 := by omega
        have h2 : ¬ i * 6 + 5 = j * 6 + 2 := by omega
        have h3 : ¬ i * 6 + 5 = j * 6 + 1 := by omega
        have h4 : ¬ i * 6 + 5 = j * 6 := by omega
        rw [← hF2]
        simp only [h1, h2, h3, h4, if_false]
      have E4 := hid e4
      have E5 := hid e5
      have c4 := HR2.out.cell (i := j * 6 + 4) (by omega)
      have c5 := HR2.out.cell (i := j * 6 + 5) (by omega)
      rw [e4] at c4
      rw [e5] at c5
      have hoc := (HV2.out j hlt).1
      obtain ⟨gc, fc, hvc, hgc1, hgc2, hrc⟩ := hoc
      obtain ⟨ge, fe, hve, hge1, hge2, hre⟩ := (HV2.out j hlt).2
      have HVE := hid hve
      rw [hvc] at c4
      have hgl2 := HR2.out.lt
      have HRC := hid hrc
      clear hF2 hvc e4 e5 hrc hre hr1 c5
      go_wp2_with fail
      generalize (w1.setCell ⟨g, j * 6 + 2, none⟩ (.string s1)).setCell ⟨g, j * 6 + 3, none⟩ (.int .i64 (k + 1 + 1 + 1)) = wB at *
      refine (markNodes gc (mc j) fc (k + 1 + 1 + 1 + 1) _ hmj (by omega) (by omega) HRC.out).mono ?_
      rintro e w4 ⟨⟨r4, rfl, hr4a, hr4b⟩, hf4, hA4⟩
      have HV4 : Hid (∀ i, i < n → Nd.Own w4 (g + 1) C (f' (i * 6 + 4)) (mc i) ∧ Nd.Own w4 (g + 1) C (f' (i * 6 + 5)) (me i)) := hid (fun i hi => ⟨ownAmid (HV2.out i hi).1 hA4 HRC.out hf4, ownAmid (HV2.out i hi).2 hA4 HRC.out hf4⟩)
      have HR4 := hid (HR2.out.of_block (w' := w4) (hA4.block g HR2.out.lt (.inl (by omega))))
      have HA4 := hid (HA2.out.trans (hA4.mono (by omega) (by omega)))
      have c5 := HR4.out.cell (i := j * 6 + 5) (by omega)
      have hgl4 := HR4.out.lt
      rw [E5.out] at c5
      obtain ⟨ge', fe', hve', hge1', hge2', hre'⟩ := (HV4.out j hlt).2
      rw [hve'] at c5
      have HRE := hid hre'
      clear hve' hre' hf4 hA4
      go_wp2_with fail
      refine (markNodes ge' (me j) fe' r4 _ hmj2 (by omega) (by omega) HRE.out).mono ?_
      rintro e w5 ⟨⟨r5, rfl, hr5a, hr5b⟩, hf5, hA5⟩
      have HV5 : Hid (∀ i, i < n → Nd.Own w5 (g + 1) C (F2 (i * 6 + 4)) (mc i) ∧ Nd.Own w5 (g + 1) C (F2 (i * 6 + 5)) (me i)) := hid (fun i hi => by
        rw [E4.out, E5.out]
        exact ⟨ownAmid (HV4.out i hi).1 hA5 HRE.out hf5, ownAmid (HV4.out i hi).2 hA5 HRE.out hf5⟩)
      have HR5 := hid (HR4.out.of_block (w' := w5) (hA5.block g HR4.out.lt (.inl (by omega))))
      have HA5 := hid (HA4.out.trans (hA5.mono (by omega) (by omega)))
      clear hf5 hA5
      go_wp2
      exact ⟨⟨j + 1, r5, F2, by simp, rfl, by omega, by omega, by omega, HR5, HV5, HA5⟩, by simp [intOf]; omega⟩
    · obtain rfl : j = n := by omega
      go_wp2
      go_ret
      exact ⟨⟨_, rfl, hk1, by rw [← HE.out]; exact hk2⟩, HAM.out⟩
end St
namespace Ep
open Ex (hid)
open St (StepD Amid lenC lenE)
theorem wt_take_le (ss : List (List StepD)) (k : Nat) : wt (ss.take k) ≤ wt ss := by
  induction ss generalizing k with
  | nil => simp [wt]
  | cons s ss ih =>
    cases k with
    | zero => simp [wt]
    | succ k => have := ih k; simp only [List.take_succ_cons, wt]; omega
theorem len_le_wt (ss : List (List StepD)) : ss.length ≤ wt ss := by
  induction ss with
  | nil => simp [wt]
  | cons s ss ih => simp only [List.length_cons, wt]; omega
theorem wt_mem {ss : List (List StepD)} {j : Nat} (h : j < ss.length) : St.wt ss[j] ≤ wt ss := by
  have h1 := wt_take h
  have h2 := wt_take_le ss (j + 1)
  unfold wt1 at h1; omega
set_option maxRecDepth 100000 in
set_option maxHeartbeats 4000000 in
theorem markS (B C : Nat) (v : Value) (ss : List (List StepD)) (k0 : Int) (w : World) (h0 : 1 ≤ k0) (hk0 : k0 ≤ 100000000) (hwt : wt ss ≤ 1048576) (h : Own w B C v ss.length ss) :
    Calls Tryz.prog 16 #[v, .int .i64 k0] w fun e w' => (∃ r : Int, e = .returned (.int .i64 r) ∧ k0 ≤ r ∧ r ≤ k0 + 4 * (wt ss : Int)) ∧ Amid w w' B C := by
  obtain ⟨g, f, rfl, hB, hC, hr, lo, hi, hv, ho⟩ := h
  have HR := hid hr
  have HO : Hid (∀ j (h : j < ss.length), St.Own w (lo j) (hi j) (f j) ss[j].length (lenC ss[j]) (lenE ss[j])) := hid ho
  have HV := hid hv
  have HS : Hid (∀ j (h : j < ss.length), wt (ss.take (j + 1)) = wt (ss.take j) + 1 + St.wt ss[j]) := hid (fun j hj => wt_take hj)
  have HT : Hid (∀ j, wt (ss.take j) ≤ 1048576) := hid (fun j => Nat.le_trans (wt_take_le ss j) hwt)
  have HE : Hid (wt (ss.take ss.length) = wt ss) := hid (by rw [List.take_of_length_le (Nat.le_refl _)])
  have hn2 : ss.length ≤ 1048576 := Nat.le_trans (len_le_wt ss) hwt
  have HM : Hid (∀ j (h : j < ss.length), St.wt ss[j] ≤ 1048576) := hid (fun j h => Nat.le_trans (wt_mem h) hwt)
  clear hr ho hv hwt
  go_enter Tryz.func16, Tryz.ntmps16
  go_wp2
  go_loopw [1, 5] (fun q i wr => ∃ (j : Nat) (k : Int), i = .int .i64 j ∧ q = .int .i64 k ∧ k0 ≤ k ∧ k ≤ k0 + 4 * (wt (ss.take j) : Int) ∧ j ≤ ss.length ∧ Hid (wr.rowIs g 80 (ss.length * 1) f) ∧ Hid (∀ i (h : i < ss.length), j ≤ i → St.Own wr (lo i) (hi i) (f i) ss[i].length (lenC ss[i]) (lenE ss[i])) ∧ Hid (Amid w wr B C)) (fun _ i _ => ss.length - (intOf i).toNat)
  case atStart => exact ⟨0, k0, rfl, rfl, by omega, by simp [wt], Nat.zero_le _, HR, hid (fun i h _ => HO.out i h), hid (Amid.refl _ _ _)⟩
  case round =>
    obtain ⟨j, k, rfl, rfl, hk1, hk2, hj, HW, HQ, HAM⟩ := hrel
    by_cases hlt : j < ss.length
    · have q1 : (j : Int) < (ss.length : Int) := by omega
      have c0 : wr.cell? ⟨g, j, none⟩ = some (f j) := HW.out.cell (i := j) (by omega)
      have hgl := HW.out.lt
      have hown := HQ.out j hlt (Nat.le_refl _)
      have hws := HS.out j hlt
      have hwt := HT.out (j + 1)
      have hwm := HM.out j hlt
      obtain ⟨g1, f1, hv1, _⟩ := id hown
      have HC := hid (St.markSteps2 (lo j) (hi j) (f j) ss[j] k wr (by omega) (by omega) hwm hown)
      rw [hv1] at c0 HC
      have hiv := HV.out.base j hlt
      clear hown hv1
      go_wp2_with fail
      refine HC.out.mono ?_
      rintro e w1 ⟨⟨r, rfl, hr1, hr2⟩, ham⟩
      have HW1 := hid (HW.out.of_block (w' := w1) (ham.block g HW.out.lt (.inl (by omega))))
      have HQ1 : Hid (∀ i (h : i < ss.length), j + 1 ≤ i → St.Own w1 (lo i) (hi i) (f i) ss[i].length (lenC ss[i]) (lenE ss[i])) := hid (fun i hi' hji => own1Kept (HQ.out i hi' (by omega)) (fun b hb1 hb2 hb3 => ham.block b hb3 (by have := HV.out.sep j i (by omega) hi'; omega)))
      have HA1 := hid (HAM.out.trans (ham.mono (by omega) hiv.2))
      clear ham HC
      go_wp2
      exact ⟨⟨j + 1, r, by simp, rfl, by omega, by omega, by omega, HW1, HQ1, HA1⟩, by simp [intOf]; omega⟩
    · obtain rfl : j = ss.length := by omega
      go_wp2
      go_ret
      exact ⟨⟨_, rfl, hk1, by rw [← HE.out]; exact hk2⟩, HAM.out⟩
end Ep
end Go.Proofs.YtkelmhkakdeghaaGreatDoor
/- How long what a step of a process without a fault has can be. -/
namespace Go.Proofs.YtkelmhkakdeghaaGreatDoor
set_option linter.unusedVariables false
namespace Gr
open Ex (inR eFault)
open St (StepD)
open Tr (nf)
open Pf (PJ PJ_eq pFault of_p of_one first_all formOk partC linkC)
theorem nf8 {l : List UInt8} (h : nf l = 0) : l.length ≤ 8 := by
  unfold nf at h
  split at h
  · cases h
  split at h
  · cases h
  split at h
  · cases h
  omega
theorem few {ss : List StepD} (h : pFault ss = 0) {i : Nat} (hi : i < ss.length) : ss[i].name.size ≤ 8 ∧ ss[i].cond.length ≤ 16 ∧ ss[i].expr.length ≤ 16 := by
  obtain ⟨_, h1, h2, h3⟩ := of_p h
  have e := of_one (first_all h1 hi)
  have e2 := first_all h2 hi
  rw [PJ_eq hi] at e
  obtain ⟨f, _, _, _, p⟩ := e
  unfold formOk at f
  have fb : Pf.bare ss[i] = true := (Bool.and_eq_true _ _ ▸ f).2
  unfold partC at p
  unfold Pf.bare at fb
  rw [Bool.and_eq_true, Bool.and_eq_true] at fb
  obtain ⟨⟨b1, b2⟩, b3⟩ := fb
  refine ⟨?_, ?_, ?_⟩
  · by_cases hk : ss[i].kind = 2
    · by_cases hn : nf ss[i].name.data.toList = 0
      · exact nf8 hn
      · rw [if_pos ⟨hk, hn⟩] at p; exact absurd p hn
    · have hz : ss[i].name.toList.isEmpty = true := by
        rcases Bool.or_eq_true_iff.1 b1 with q | q
        · exact absurd (by simpa using q) hk
        · exact q
      rw [ByteArray.toList_eq, List.isEmpty_iff] at hz
      have : ss[i].name.data.toList.length = 0 := by rw [hz]; rfl
      have e3 : ss[i].name.data.toList.length = ss[i].name.size := rfl
      omega
  · by_cases hc : 0 < ss[i].cond.length
    · unfold linkC at e2
      rw [PJ_eq hi] at e2
      split at e2
      · cases e2
      split at e2
      · cases e2
      try rw [if_pos hc] at e2
      exact (Ex.of_e e2).2.1
    · omega
  · by_cases hk : ss[i].kind = 7
    · rw [if_neg (by omega)] at p
      split at p
      · cases p
      try rw [if_pos hk] at p
      exact (Ex.of_e p).2.1
    · rcases Bool.or_eq_true_iff.1 b3 with q | q
      · exact absurd (by simpa using q) hk
      · have : ss[i].expr.length = 0 := by simpa using q
        omega
end Gr
end Go.Proofs.YtkelmhkakdeghaaGreatDoor
