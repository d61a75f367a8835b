/- The law's comparison of desks. -/
import Derived.Test.YtpninlangjfcfaaDkA
namespace Go.Proofs.Ytpninlangjfcfaa
open Go.RowKit Go.Deep
set_option linter.unusedVariables false
namespace Dk
open Ex (hid)
open St (StepD old_cell old_free setB)
open Ei (InstD)
open En (EngD)
open Cl (ClD)
open Ch (blk_set blk_cell blk_free new_blk new_at blk_lt)
set_option maxRecDepth 100000 in
set_option maxHeartbeats 2000000 in
theorem eq (B1 B2 : Nat) (d : DeskD) (vp vi vc up ui uc : Value) (w : World) (hl : Small 1048576 d) (h1 : At w B1 vp vi vc d) (h2 : At w B2 up ui uc d) :
    Calls Try.prog 8 #[.agg #[vp, vi, .int .i64 d.eng.now, vc], .agg #[up, ui, .int .i64 d.eng.now, uc]] w fun z w' => z = .returned (.bool true) ∧ Below w.heap.size w w' := by
  obtain ⟨⟨a1, k1, rfl⟩, ⟨a2, k2, rfl⟩, a3, k3, rfl⟩ := h1.slices
  obtain ⟨⟨b1, l1, rfl⟩, ⟨b2, l2, rfl⟩, b3, l3, rfl⟩ := h2.slices
  obtain ⟨w0, e0⟩ : ∃ w0, w0 = (w.alloc (.cells #[.slice a1 d.eng.procs.length k1, .slice a2 d.eng.insts.length k2, .int .i64 d.eng.now, .slice a3 d.claims.length k3] 37)).alloc (.cells #[.slice b1 d.eng.procs.length l1, .slice b2 d.eng.insts.length l2, .int .i64 d.eng.now, .slice b3 d.claims.length l3] 37) := ⟨_, rfl⟩
  have hB : Below w.heap.size w w0 := by rw [e0]; exact ((Below.refl _ w).alloc (Nat.le_refl _) _).alloc (by simp) _
  have K0 : w0.heap[w.heap.size]? = some (.cells #[.slice a1 d.eng.procs.length k1, .slice a2 d.eng.insts.length k2, .int .i64 d.eng.now, .slice a3 d.claims.length k3] 37) := by rw [e0, Below.heap_alloc _ _ _ (by simp), new_blk]
  have K1 : w0.heap[w.heap.size + 1]? = some (.cells #[.slice b1 d.eng.procs.length l1, .slice b2 d.eng.insts.length l2, .int .i64 d.eng.now, .slice b3 d.claims.length l3] 37) := by rw [e0]; exact new_at (by simp) _
  have H1 := hid (h1.below hB)
  have H2 := hid (h2.below hB)
  have HB := hid hB
  have HL := hid hl
  have HE := hid (En.eq B1 B2 d.eng _ _ _ _ w0 HL.out.eng H1.out.eng H2.out.eng)
  clear h1 h2 hB hl
  go_enter Try.func8, Try.ntmps8
  go_wp2_with fail
  rw [← e0]
  clear e0
  refine HE.out.mono ?_
  rintro z w1 ⟨rfl, hb1⟩
  have HB1 := hid (HB.out.trans (hb1.mono HB.out.size))
  have K0a := hid ((hb1.block _ (blk_lt K0)).trans K0)
  have K1a := hid ((hb1.block _ (blk_lt K1)).trans K1)
  have c0 : w1.cell? ⟨w.heap.size, 3, none⟩ = some (.slice a3 d.claims.length k3) := by rw [blk_cell K0a.out]; rfl
  have c1 : w1.cell? ⟨w.heap.size + 1, 3, none⟩ = some (.slice b3 d.claims.length l3) := by rw [blk_cell K1a.out]; rfl
  have HE2 := hid (Cl.eqS B1 B2 d.claims _ _ w1 (by have := HL.out.claims; omega) (H1.out.below hb1).claims (H2.out.below hb1).claims)
  have m0 := blk_lt K0a.out
  have m1 := blk_lt K1a.out
  clear hb1 K0 K1 HB H1 H2 HE
  go_wp2_with fail
  refine HE2.out.mono ?_
  rintro z w2 ⟨rfl, hb2⟩
  have HB2 := hid (HB1.out.trans (hb2.mono HB1.out.size))
  clear hb2 K0a K1a c0 c1 m0 m1 HB1
  go_wp2
  go_ret
  exact ⟨rfl, HB2.out⟩
end Dk
end Go.Proofs.Ytpninlangjfcfaa
