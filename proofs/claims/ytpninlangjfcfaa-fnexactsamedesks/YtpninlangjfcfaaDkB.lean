/- The law's copy of a desk, and what it owns. -/
import Derived.Test.YtpninlangjfcfaaDkA
namespace Go.Proofs.Ytpninlangjfcfaa
open Go.RowKit Go.Deep
set_option linter.unusedVariables false
namespace Dk
open Ex (hid)
open St (StepD old_cell old_free setB)
open Ei (InstD)
open En (EngD)
open Cl (ClD)
open Ch (blk_set blk_cell blk_free new_blk new_at blk_lt)
set_option maxRecDepth 100000 in
set_option maxHeartbeats 4000000 in
theorem to2 (B : Nat) (d : DeskD) (vp vi vc : Value) (w : World) (hl : Small 1048576 d) (ha : At w B vp vi vc d) :
    Calls Try.prog 6 #[.agg #[vp, vi, .int .i64 d.eng.now, vc]] w fun z w' => ∃ up ui uc, z = .returned (.agg #[up, ui, .int .i64 d.eng.now, uc]) ∧ At w' w.heap.size up ui uc d ∧ Own w' w.heap.size w'.heap.size up ui uc d ∧ Below w.heap.size w w' := by
  obtain ⟨⟨a1, k1, rfl⟩, ⟨a2, k2, rfl⟩, a3, k3, rfl⟩ := ha.slices
  have HL := hid hl
  have HA := hid ha
  obtain ⟨w0, e0⟩ : ∃ w0, w0 = ((w.alloc (.cells #[.slice a1 d.eng.procs.length k1, .slice a2 d.eng.insts.length k2, .int .i64 d.eng.now, .slice a3 d.claims.length k3] 28)).alloc (.cells #[.slice none 0 0, .slice none 0 0, .int .i64 0, .slice none 0 0] 37)).alloc (.cells #[.slice none 0 0, .slice none 0 0, .int .i64 0, .slice none 0 0] 37) := ⟨_, rfl⟩
  have KB : Hid (Below w.heap.size w w0) := hid (by rw [e0]; exact (((Below.refl _ w).alloc (Nat.le_refl _) _).alloc (by simp) _).alloc (by simp; omega) _)
  have K0 : Hid (w0.heap[w.heap.size]? = some (.cells #[.slice a1 d.eng.procs.length k1, .slice a2 d.eng.insts.length k2, .int .i64 d.eng.now, .slice a3 d.claims.length k3] 28)) := hid (by rw [e0, Below.heap_alloc _ _ _ (by simp; omega), Below.heap_alloc _ _ _ (by simp), new_blk])
  have K1 : Hid (w0.heap[w.heap.size + 1]? = some (.cells #[.slice none 0 0, .slice none 0 0, .int .i64 0, .slice none 0 0] 37)) := hid (by rw [e0, Below.heap_alloc _ _ _ (by simp)]; exact new_at (by simp) _)
  have K2 : Hid (w0.heap[w.heap.size + 1 + 1]? = some (.cells #[.slice none 0 0, .slice none 0 0, .int .i64 0, .slice none 0 0] 37)) := hid (by rw [e0]; exact new_at (by simp) _)
  have HT := hid (En.to2 B d.eng _ _ w0 HL.out.eng (HA.out.below KB.out).eng)
  clear ha hl
  go_enter Try.func6, Try.ntmps6
  go_wp2_with fail
  rw [← e0]
  clear e0
  refine HT.out.mono ?_
  rintro z w1 ⟨u1, u2, rfl, hu, ho, hb⟩
  obtain ⟨x1, y1, rfl⟩ := hu.procs.slice
  obtain ⟨x2, y2, rfl⟩ := hu.insts.slice
  have KB1 := hid (KB.out.trans (hb.mono KB.out.size))
  have z0 := blk_lt K2.out
  have K01 := hid ((hb.block _ (blk_lt K0.out)).trans K0.out)
  have K11 := hid ((hb.block _ (blk_lt K1.out)).trans K1.out)
  have K21 := hid ((hb.block _ (blk_lt K2.out)).trans K2.out)
  have g0 : w1.cell? ⟨w.heap.size + 1 + 1, 0, none⟩ = some (.slice none 0 0) := by rw [blk_cell K21.out]; rfl
  have g1 : w1.cell? ⟨w.heap.size + 1 + 1, 1, none⟩ = some (.slice none 0 0) := by rw [blk_cell K21.out]; rfl
  have g2 : w1.cell? ⟨w.heap.size + 1 + 1, 2, none⟩ = some (.int .i64 0) := by rw [blk_cell K21.out]; rfl
  have j0 := blk_free K21.out 0
  have j1 := blk_free K21.out 1
  have j2 := blk_free K21.out 2
  have z1 := blk_lt K21.out
  have HU := hid hu
  have HO := hid ho
  have hbz := hb.size
  clear hu ho KB K0 K1 K2 hb HT
  obtain ⟨wA, eA⟩ : ∃ wA, wA = ((w1.setCell ⟨w.heap.size + 1 + 1, 0, none⟩ (.slice x1 d.eng.procs.length y1)).setCell ⟨w.heap.size + 1 + 1, 1, none⟩ (.slice x2 d.eng.insts.length y2)).setCell ⟨w.heap.size + 1 + 1, 2, none⟩ (.int .i64 d.eng.now) := ⟨_, rfl⟩
  have KBs : Hid (Below w.heap.size w wA) := hid (by rw [eA]; exact setB (setB (setB KB1.out (by omega) _) (by omega) _) (by omega) _)
  have hst : ∀ b, b ≠ w.heap.size + 1 + 1 → wA.heap[b]? = w1.heap[b]? := fun b hb => by rw [eA]; repeat rw [Below.heap_setCell _ _ _ _ (by dsimp only; omega)]
  have K0s := hid ((hst w.heap.size (by omega)).trans K01.out)
  have K1s := hid ((hst (w.heap.size + 1) (by omega)).trans K11.out)
  have K2s : Hid (wA.heap[w.heap.size + 1 + 1]? = some (.cells #[.slice x1 d.eng.procs.length y1, .slice x2 d.eng.insts.length y2, .int .i64 d.eng.now, .slice none 0 0] 37)) := hid (by rw [eA]; have := blk_set (i := 2) (blk_set (i := 1) (blk_set (i := 0) K21.out (.slice x1 d.eng.procs.length y1)) (.slice x2 d.eng.insts.length y2)) (.int .i64 d.eng.now); simpa using this)
  have hsz : wA.heap.size = w1.heap.size := by rw [eA]; simp [World.setCell]
  have HUs := hid ((HU.out.mono (B' := w.heap.size + 1 + 1 + 1) (by omega)).kept (w' := wA) (Nat.le_of_eq hsz.symm) (fun g hg _ => hst g (by omega)))
  have HOs := hid ((HO.out.mono (B' := w.heap.size + 1 + 1 + 1) (by omega) (Nat.le_refl _)).kept (w' := wA) (fun g hg _ _ => hst g (by omega)))
  have e3 : wA.cell? ⟨w.heap.size, 3, none⟩ = some (.slice a3 d.claims.length k3) := by rw [blk_cell K0s.out]; rfl
  have z3 := blk_lt K2s.out
  have z4 := blk_lt K0s.out
  have HSZ := hid hsz
  have HE3 := hid e3
  rw [eA] at e3
  have z5 : w.heap.size < w1.heap.size := by omega
  have HT2 := hid (Cl.toS2 B d.claims _ wA (by have := HL.out.claims; omega) (HA.out.below KBs.out).claims)
  have z6 : w.heap.size + 1 + 1 < w1.heap.size := by omega
  have d3 : w1.cell? ⟨w.heap.size, 3, none⟩ = some (.slice a3 d.claims.length k3) := by rw [blk_cell K01.out]; rfl
  clear KB1 K01 K11 K21 HU HO hsz hst e3
  go_wp2_with fail
  rw [← eA]
  clear eA g0 g1 g2 j0 j1 j2 d3
  refine HT2.out.mono ?_
  rintro z w2 ⟨u3, rfl, hu, ho, hb⟩
  obtain ⟨x3, y3, rfl⟩ := hu.slice
  have KB2 := hid (KBs.out.trans (hb.mono KBs.out.size))
  have K02 := hid ((hb.block _ (blk_lt K0s.out)).trans K0s.out)
  have K12 := hid ((hb.block _ (blk_lt K1s.out)).trans K1s.out)
  have K22 := hid ((hb.block _ (blk_lt K2s.out)).trans K2s.out)
  have HU1 := hid (HUs.out.below hb)
  have HO1 := hid (HOs.out.below hb)
  have z12 : w1.heap.size ≤ w2.heap.size := by have := hb.size; have := HSZ.out; omega
  have HU2 := hid (hu.mono (show w.heap.size + 1 + 1 + 1 ≤ wA.heap.size by omega))
  have HO2 := hid (ho.mono (show w1.heap.size ≤ wA.heap.size by have := HSZ.out; omega) (Nat.le_refl _))
  have c0 : w2.cell? ⟨w.heap.size + 1 + 1, 0, none⟩ = some (.slice x1 d.eng.procs.length y1) := by rw [blk_cell K22.out]; rfl
  have c1 : w2.cell? ⟨w.heap.size + 1 + 1, 1, none⟩ = some (.slice x2 d.eng.insts.length y2) := by rw [blk_cell K22.out]; rfl
  have c2 : w2.cell? ⟨w.heap.size + 1 + 1, 2, none⟩ = some (.int .i64 d.eng.now) := by rw [blk_cell K22.out]; rfl
  have c3 : w2.cell? ⟨w.heap.size + 1 + 1, 3, none⟩ = some (.slice none 0 0) := by rw [blk_cell K22.out]; rfl
  have d0 : w2.cell? ⟨w.heap.size + 1, 0, none⟩ = some (.slice none 0 0) := by rw [blk_cell K12.out]; rfl
  have d1 : w2.cell? ⟨w.heap.size + 1, 1, none⟩ = some (.slice none 0 0) := by rw [blk_cell K12.out]; rfl
  have d2 : w2.cell? ⟨w.heap.size + 1, 2, none⟩ = some (.int .i64 0) := by rw [blk_cell K12.out]; rfl
  have d3 : w2.cell? ⟨w.heap.size + 1, 3, none⟩ = some (.slice none 0 0) := by rw [blk_cell K12.out]; rfl
  have f3 := blk_free K22.out 3
  have i0 := blk_free K12.out 0
  have i1 := blk_free K12.out 1
  have i2 := blk_free K12.out 2
  have i3 := blk_free K12.out 3
  have m0 := blk_lt K02.out
  have m1 := blk_lt K12.out
  have m2 := blk_lt K22.out
  clear hu ho hb KBs K0s K1s K2s HUs HOs HSZ K02 K12 K22 HE3
  go_wp2
  refine bodyPost_ret (v := .agg #[.slice x1 d.eng.procs.length y1, .slice x2 d.eng.insts.length y2, .int .i64 d.eng.now, .slice x3 d.claims.length y3]) (by simp [results, Try.results6, go_sem, d0, d1, d2, d3]) rfl ⟨_, _, _, rfl, ⟨?_, ?_⟩, ⟨⟨w1.heap.size, by omega, by simpa [World.setCell] using z12, ?_, ?_⟩⟩, ?_⟩
  · exact (HU1.out.kept (by simp [World.setCell]) (fun g hg _ => by repeat rw [Below.heap_setCell _ _ _ _ (by dsimp only; omega)])).mono (by omega)
  · exact (HU2.out.kept (by simp [World.setCell]) (fun g hg _ => by repeat rw [Below.heap_setCell _ _ _ _ (by dsimp only; omega)])).mono (by omega)
  · exact (HO1.out.kept (fun g hg _ _ => by repeat rw [Below.heap_setCell _ _ _ _ (by dsimp only; omega)])).mono (by omega) (Nat.le_refl _)
  · exact (HO2.out.kept (fun g hg _ _ => by repeat rw [Below.heap_setCell _ _ _ _ (by dsimp only; omega)])).mono (Nat.le_refl _) (by simp [World.setCell])
  · exact setB (setB (setB (setB (setB KB2.out (by omega) _) (by omega) _) (by omega) _) (by omega) _) (by omega) _
end Dk
end Go.Proofs.Ytpninlangjfcfaa
