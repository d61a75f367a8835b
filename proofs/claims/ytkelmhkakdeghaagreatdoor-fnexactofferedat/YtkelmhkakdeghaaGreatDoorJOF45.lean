/- Laid together: DkB, DkC, EmA. -/
import Derived.Test.YtkelmhkakdeghaaGreatDoorJOF19
import Derived.Test.YtkelmhkakdeghaaGreatDoorJOF16
import Derived.Test.YtkelmhkakdeghaaGreatDoorJOF13
/- The law's copy of a desk, and what it owns. -/
namespace Go.Proofs.YtkelmhkakdeghaaGreatDoor
open Go.RowKit Go.Deep
set_option linter.unusedVariables false
namespace Dk
open Ex (hid)
open St (StepD old_cell old_free setB)
open Ei (InstD)
open En (EngD)
open Cl (ClD)
open Ch (blk_set blk_cell blk_free new_blk new_at blk_lt)
set_option maxRecDepth 100000 in
set_option maxHeartbeats 4000000 in
theorem to2 (B : Nat) (d : DeskD) (vp vi vc : Value) (w : World) (hl : Small 1048576 d) (ha : At w B vp vi vc d) :
    Calls Tryz.prog 27 #[.agg #[vp, vi, .int .i64 d.eng.now, vc]] w fun z w' => ∃ up ui uc, z = .returned (.agg #[up, ui, .int .i64 d.eng.now, uc]) ∧ At w' w.heap.size up ui uc d ∧ Own w' w.heap.size w'.heap.size up ui uc d ∧ Below w.heap.size w w' := by
  obtain ⟨⟨a1, k1, rfl⟩, ⟨a2, k2, rfl⟩, a3, k3, rfl⟩ := ha.slices
  have HL := hid hl
  have HA := hid ha
  obtain ⟨w0, e0⟩ : ∃ w0, w0 = ((w.alloc (.cells #[.slice a1 d.eng.procs.length k1, .slice a2 d.eng.insts.length k2, .int .i64 d.eng.now, .slice a3 d.claims.length k3] 48)).alloc (.cells #[.slice none 0 0, .slice none 0 0, .int .i64 0, .slice none 0 0] 53)).alloc (.cells #[.slice none 0 0, .slice none 0 0, .int .i64 0, .slice none 0 0] 53) := ⟨_, rfl⟩
  have KB : Hid (Below w.heap.size w w0) := hid (by rw [e0]; exact (((Below.refl _ w).alloc (Nat.le_refl _) _).alloc (by simp) _).alloc (by simp; omega) _)
  have K0 : Hid (w0.heap[w.heap.size]? = some (.cells #[.slice a1 d.eng.procs.length k1, .slice a2 d.eng.insts.length k2, .int .i64 d.eng.now, .slice a3 d.claims.length k3] 48)) := hid (by rw [e0, Below.heap_alloc _ _ _ (by simp; omega), Below.heap_alloc _ _ _ (by simp), new_blk])
  have K1 : Hid (w0.heap[w.heap.size + 1]? = some (.cells #[.slice none 0 0, .slice none 0 0, .int .i64 0, .slice none 0 0] 53)) := hid (by rw [e0, Below.heap_alloc _ _ _ (by simp)]; exact new_at (by simp) _)
  have K2 : Hid (w0.heap[w.heap.size + 1 + 1]? = some (.cells #[.slice none 0 0, .slice none 0 0, .int .i64 0, .slice none 0 0] 53)) := hid (by rw [e0]; exact new_at (by simp) _)
  have HT := hid (En.to2 B d.eng _ _ w0 HL.out.eng (HA.out.below KB.out).eng)
  clear ha hl
  go_enter Tryz.func27, Tryz.ntmps27
  go_wp2_with fail
  rw [← e0]
  clear e0
  refine HT.out.mono ?_
  rintro z w1 ⟨u1, u2, rfl, hu, ho, hb⟩
  obtain ⟨x1, y1, rfl⟩ := hu.procs.slice
  obtain ⟨x2, y2, rfl⟩ := hu.insts.slice
  have KB1 := hid (KB.out.trans (hb.mono KB.out.size))
  have z0 := blk_lt K2.out
  have K01 := hid ((hb.block _ (blk_lt K0.out)).trans K0.out)
  have K11 := hid ((hb.block _ (blk_lt K1.out)).trans K1.out)
  have K21 := hid ((hb.block _ (blk_lt K2.out)).trans K2.out)
  have g0 : w1.cell? ⟨w.heap.size + 1 + 1, 0, none⟩ = some (.slice none 0 0) := by rw [blk_cell K21.out]; rfl
  have g1 : w1.cell? ⟨w.heap.size + 1 + 1, 1, none⟩ = some (.slice none 0 0) := by rw [blk_cell K21.out]; rfl
  have g2 : w1.cell? ⟨w.heap.size + 1 + 1, 2, none⟩ = some (.int .i64 0) := by rw [blk_cell K21.out]; rfl
  have j0 := blk_free K21.out 0
  have j1 := blk_free K21.out 1
  have j2 := blk_free K21.out 2
  have z1 := blk_lt K21.out
  have HU := hid hu
  have HO := hid ho
  have hbz := hb.size
  clear hu ho KB K0 K1 K2 hb HT
  obtain ⟨wA, eA⟩ : ∃ wA, wA = ((w1.setCell ⟨w.heap.size + 1 + 1, 0, none⟩ (.slice x1 d.eng.procs.length y1)).setCell ⟨w.heap.size + 1 + 1, 1, none⟩ (.slice x2 d.eng.insts.length y2)).setCell ⟨w.heap.size + 1 + 1, 2, none⟩ (.int .i64 d.eng.now) := ⟨_, rfl⟩
  have KBs : Hid (Below w.heap.size w wA) := hid (by rw [eA]; exact setB (setB (setB KB1.out (by omega) _) (by omega) _) (by omega) _)
  have hst : ∀ b, b ≠ w.heap.size + 1 + 1 → wA.heap[b]? = w1.heap[b]? := fun b hb => by rw [eA]; repeat rw [Below.heap_setCell _ _ _ _ (by dsimp only; omega)]
  have K0s := hid ((hst w.heap.size (by omega)).trans K01.out)
  have K1s := hid ((hst (w.heap.size + 1) (by omega)).trans K11.out)
  have K2s : Hid (wA.heap[w.heap.size + 1 + 1]? = some (.cells #[.slice x1 d.eng.procs.length y1, .slice x2 d.eng.insts.length y2, .int .i64 d.eng.now, .slice none 0 0] 53)) := hid (by rw [eA]; have := blk_set (i := 2) (blk_set (i := 1) (blk_set (i := 0) K21.out (.slice x1 d.eng.procs.length y1)) (.slice x2 d.eng.insts.length y2)) (.int .i64 d.eng.now); simpa using this)
  have hsz : wA.heap.size = w1.heap.size := by rw [eA]; simp [World.setCell]
  have HUs := hid ((HU.out.mono (B' := w.heap.size + 1 + 1 + 1) (by omega)).kept (w' := wA) (Nat.le_of_eq hsz.symm) (fun g hg _ => hst g (by omega)))
  have HOs := hid ((HO.out.mono (B' := w.heap.size + 1 + 1 + 1) (by omega) (Nat.le_refl _)).kept (w' := wA) (fun g hg _ _ => hst g (by omega)))
  have e3 : wA.cell? ⟨w.heap.size, 3, none⟩ = some (.slice a3 d.claims.length k3) := by rw [blk_cell K0s.out]; rfl
  have z3 := blk_lt K2s.out
  have z4 := blk_lt K0s.out
  have HSZ := hid hsz
  have HE3 := hid e3
  rw [eA] at e3
  have z5 : w.heap.size < w1.heap.size := by omega
  have HT2 := hid (Cl.toS2 B d.claims _ wA (by have := HL.out.claims; omega) (HA.out.below KBs.out).claims)
  have z6 : w.heap.size + 1 + 1 < w1.heap.size := by omega
  have d3 : w1.cell? ⟨w.heap.size, 3, none⟩ = some (.slice a3 d.claims.length k3) := by rw [blk_cell K01.out]; rfl
  clear KB1 K01 K11 K21 HU HO hsz hst e3
  go_wp2_with fail
  rw [← eA]
  clear eA g0 g1 g2 j0 j1 j2 d3
  refine HT2.out.mono ?_
  rintro z w2 ⟨u3, rfl, hu, ho, hb⟩
  obtain ⟨x3, y3, rfl⟩ := hu.slice
  have KB2 := hid (KBs.out.trans (hb.mono KBs.out.size))
  have K02 := hid ((hb.block _ (blk_lt K0s.out)).trans K0s.out)
  have K12 := hid ((hb.block _ (blk_lt K1s.out)).trans K1s.out)
  have K22 := hid ((hb.block _ (blk_lt K2s.out)).trans K2s.out)
  have HU1 := hid (HUs.out.below hb)
  have HO1 := hid (HOs.out.below hb)
  have z12 : w1.heap.size ≤ w2.heap.size := by have := hb.size; have := HSZ.out; omega
  have HU2 := hid (hu.mono (show w.heap.size + 1 + 1 + 1 ≤ wA.heap.size by omega))
  have HO2 := hid (ho.mono (show w1.heap.size ≤ wA.heap.size by have := HSZ.out; omega) (Nat.le_refl _))
  have c0 : w2.cell? ⟨w.heap.size + 1 + 1, 0, none⟩ = some (.slice x1 d.eng.procs.length y1) := by rw [blk_cell K22.out]; rfl
  have c1 : w2.cell? ⟨w.heap.size + 1 + 1, 1, none⟩ = some (.slice x2 d.eng.insts.length y2) := by rw [blk_cell K22.out]; rfl
  have c2 : w2.cell? ⟨w.heap.size + 1 + 1, 2, none⟩ = some (.int .i64 d.eng.now) := by rw [blk_cell K22.out]; rfl
  have c3 : w2.cell? ⟨w.heap.size + 1 + 1, 3, none⟩ = some (.slice none 0 0) := by rw [blk_cell K22.out]; rfl
  have d0 : w2.cell? ⟨w.heap.size + 1, 0, none⟩ = some (.slice none 0 0) := by rw [blk_cell K12.out]; rfl
  have d1 : w2.cell? ⟨w.heap.size + 1, 1, none⟩ = some (.slice none 0 0) := by rw [blk_cell K12.out]; rfl
  have d2 : w2.cell? ⟨w.heap.size + 1, 2, none⟩ = some (.int .i64 0) := by rw [blk_cell K12.out]; rfl
  have d3 : w2.cell? ⟨w.heap.size + 1, 3, none⟩ = some (.slice none 0 0) := by rw [blk_cell K12.out]; rfl
  have f3 := blk_free K22.out 3
  have i0 := blk_free K12.out 0
  have i1 := blk_free K12.out 1
  have i2 := blk_free K12.out 2
  have i3 := blk_free K12.out 3
  have m0 := blk_lt K02.out
  have m1 := blk_lt K12.out
  have m2 := blk_lt K22.out
  clear hu ho hb KBs K0s K1s K2s HUs HOs HSZ K02 K12 K22 HE3
  go_wp2
  refine bodyPost_ret (v := .agg #[.slice x1 d.eng.procs.length y1, .slice x2 d.eng.insts.length y2, .int .i64 d.eng.now, .slice x3 d.claims.length y3]) (by simp [results, Tryz.results27, go_sem, d0, d1, d2, d3]) rfl ⟨_, _, _, rfl, ⟨?_, ?_⟩, ⟨⟨w1.heap.size, by omega, by simpa [World.setCell] using z12, ?_, ?_⟩⟩, ?_⟩
  · exact (HU1.out.kept (by simp [World.setCell]) (fun g hg _ => by repeat rw [Below.heap_setCell _ _ _ _ (by dsimp only; omega)])).mono (by omega)
  · exact (HU2.out.kept (by simp [World.setCell]) (fun g hg _ => by repeat rw [Below.heap_setCell _ _ _ _ (by dsimp only; omega)])).mono (by omega)
  · exact (HO1.out.kept (fun g hg _ _ => by repeat rw [Below.heap_setCell _ _ _ _ (by dsimp only; omega)])).mono (by omega) (Nat.le_refl _)
  · exact (HO2.out.kept (fun g hg _ _ => by repeat rw [Below.heap_setCell _ _ _ _ (by dsimp only; omega)])).mono (Nat.le_refl _) (by simp [World.setCell])
  · exact setB (setB (setB (setB (setB KB2.out (by omega) _) (by omega) _) (by omega) _) (by omega) _) (by omega) _
end Dk
end Go.Proofs.YtkelmhkakdeghaaGreatDoor
/- The law's comparison of desks. -/
namespace Go.Proofs.YtkelmhkakdeghaaGreatDoor
open Go.RowKit Go.Deep
set_option linter.unusedVariables false
namespace Dk
open Ex (hid)
open St (StepD old_cell old_free setB)
open Ei (InstD)
open En (EngD)
open Cl (ClD)
open Ch (blk_set blk_cell blk_free new_blk new_at blk_lt)
set_option maxRecDepth 100000 in
set_option maxHeartbeats 2000000 in
theorem eq (B1 B2 : Nat) (d : DeskD) (vp vi vc up ui uc : Value) (w : World) (hl : Small 1048576 d) (h1 : At w B1 vp vi vc d) (h2 : At w B2 up ui uc d) :
    Calls Tryz.prog 29 #[.agg #[vp, vi, .int .i64 d.eng.now, vc], .agg #[up, ui, .int .i64 d.eng.now, uc]] w fun z w' => z = .returned (.bool true) ∧ Below w.heap.size w w' := by
  obtain ⟨⟨a1, k1, rfl⟩, ⟨a2, k2, rfl⟩, a3, k3, rfl⟩ := h1.slices
  obtain ⟨⟨b1, l1, rfl⟩, ⟨b2, l2, rfl⟩, b3, l3, rfl⟩ := h2.slices
  obtain ⟨w0, e0⟩ : ∃ w0, w0 = (w.alloc (.cells #[.slice a1 d.eng.procs.length k1, .slice a2 d.eng.insts.length k2, .int .i64 d.eng.now, .slice a3 d.claims.length k3] 53)).alloc (.cells #[.slice b1 d.eng.procs.length l1, .slice b2 d.eng.insts.length l2, .int .i64 d.eng.now, .slice b3 d.claims.length l3] 53) := ⟨_, rfl⟩
  have hB : Below w.heap.size w w0 := by rw [e0]; exact ((Below.refl _ w).alloc (Nat.le_refl _) _).alloc (by simp) _
  have K0 : w0.heap[w.heap.size]? = some (.cells #[.slice a1 d.eng.procs.length k1, .slice a2 d.eng.insts.length k2, .int .i64 d.eng.now, .slice a3 d.claims.length k3] 53) := by rw [e0, Below.heap_alloc _ _ _ (by simp), new_blk]
  have K1 : w0.heap[w.heap.size + 1]? = some (.cells #[.slice b1 d.eng.procs.length l1, .slice b2 d.eng.insts.length l2, .int .i64 d.eng.now, .slice b3 d.claims.length l3] 53) := by rw [e0]; exact new_at (by simp) _
  have H1 := hid (h1.below hB)
  have H2 := hid (h2.below hB)
  have HB := hid hB
  have HL := hid hl
  have HE := hid (En.eq B1 B2 d.eng _ _ _ _ w0 HL.out.eng H1.out.eng H2.out.eng)
  clear h1 h2 hB hl
  go_enter Tryz.func29, Tryz.ntmps29
  go_wp2_with fail
  rw [← e0]
  clear e0
  refine HE.out.mono ?_
  rintro z w1 ⟨rfl, hb1⟩
  have HB1 := hid (HB.out.trans (hb1.mono HB.out.size))
  have K0a := hid ((hb1.block _ (blk_lt K0)).trans K0)
  have K1a := hid ((hb1.block _ (blk_lt K1)).trans K1)
  have c0 : w1.cell? ⟨w.heap.size, 3, none⟩ = some (.slice a3 d.claims.length k3) := by rw [blk_cell K0a.out]; rfl
  have c1 : w1.cell? ⟨w.heap.size + 1, 3, none⟩ = some (.slice b3 d.claims.length l3) := by rw [blk_cell K1a.out]; rfl
  have HE2 := hid (Cl.eqS B1 B2 d.claims _ _ w1 (by have := HL.out.claims; omega) (H1.out.below hb1).claims (H2.out.below hb1).claims)
  have m0 := blk_lt K0a.out
  have m1 := blk_lt K1a.out
  clear hb1 K0 K1 HB H1 H2 HE
  go_wp2_with fail
  refine HE2.out.mono ?_
  rintro z w2 ⟨rfl, hb2⟩
  have HB2 := hid (HB1.out.trans (hb2.mono HB1.out.size))
  clear hb2 K0a K1a c0 c1 m0 m1 HB1
  go_wp2
  go_ret
  exact ⟨rfl, HB2.out⟩
end Dk
end Go.Proofs.YtkelmhkakdeghaaGreatDoor
/- The law's marks in rows of processes and of steps that it has handed in: they are written into these rows alone. -/
namespace Go.Proofs.YtkelmhkakdeghaaGreatDoor
open Go.RowKit
set_option linter.unusedVariables false
namespace St
open Ex (hid)
open Nd (NodeD)
theorem wt_take_le (ss : List StepD) (k : Nat) : wt (ss.take k) ≤ wt ss := by
  induction ss generalizing k with
  | nil => simp [wt]
  | cons s ss ih =>
    cases k with
    | zero => simp [wt]
    | succ k => have := ih k; simp only [List.take_succ_cons, wt]; omega
theorem len_le_wt (ss : List StepD) : ss.length ≤ wt ss := by
  induction ss with
  | nil => simp [wt]
  | cons s ss ih => simp only [List.length_cons, wt]; omega
set_option maxRecDepth 100000 in
set_option maxHeartbeats 8000000 in
theorem markSteps2 (B C : Nat) (v : Value) (ss : List StepD) (k0 : Int) (w : World) (h0 : 1 ≤ k0) (hk0 : k0 ≤ 1000000000) (hwt : wt ss ≤ 1048576) (h : Own w B C v ss.length (lenC ss) (lenE ss)) :
    Calls Tryz.prog 53 #[v, .int .i64 k0] w fun e w' => (∃ r : Int, e = .returned (.int .i64 r) ∧ k0 ≤ r ∧ r ≤ k0 + 4 * (wt ss : Int)) ∧ Amid w w' B C := by
  obtain ⟨g, f, rfl, hB, hC, hr, ho⟩ := h
  have HR := hid hr
  have HO := hid ho
  have HS : Hid (∀ j, j < ss.length → wt (ss.take j) + 1 + lenC ss j + lenE ss j ≤ wt (ss.take (j + 1))) := hid (fun j hj => by
    rw [wt_take hj, lenC_eq hj, lenE_eq hj]; unfold wt1; omega)
  have HT : Hid (∀ j, wt (ss.take j) ≤ 1048576) := hid (fun j => Nat.le_trans (wt_take_le ss j) hwt)
  have HE : Hid (wt (ss.take ss.length) = wt ss) := hid (by rw [List.take_of_length_le (Nat.le_refl _)])
  have hwt0 : (wt ss : Int) ≤ 1048576 := by omega
  obtain ⟨n, hn⟩ : ∃ n, Hid (n = ss.length) := ⟨_, hid rfl⟩
  rw [← hn.out] at HR HO HS HE ⊢
  have hn2 : n ≤ 1048576 := by rw [hn.out]; exact Nat.le_trans (len_le_wt ss) hwt
  obtain ⟨mc, hmcE⟩ : ∃ mc, Hid (mc = lenC ss) := ⟨_, hid rfl⟩
  obtain ⟨me, hmeE⟩ : ∃ me, Hid (me = lenE ss) := ⟨_, hid rfl⟩
  rw [← hmcE.out] at HO HS
  rw [← hmeE.out] at HO HS
  obtain ⟨W, hW⟩ : ∃ W : Nat → Nat, Hid (W = fun j => wt (ss.take j)) := ⟨_, hid rfl⟩
  replace HS : Hid (∀ j, j < n → W j + 1 + mc j + me j ≤ W (j + 1)) := hid (fun j hj => by rw [hW.out]; exact HS.out j hj)
  replace HT : Hid (∀ j, W j ≤ 1048576) := hid (fun j => by rw [hW.out]; exact HT.out j)
  replace HE : Hid (W n = wt ss) := hid (by rw [hW.out]; exact HE.out)
  have hW0 : W 0 = 0 := by rw [hW.out]; rfl
  have HW0 := hid hW0
  clear hr ho hwt hwt0 hW0
  go_enter Tryz.func53, Tryz.ntmps53
  go_wp2
  go_loopw [1, 5] (fun q i wr => ∃ (j : Nat) (k : Int) (f' : Nat → Value), i = .int .i64 j ∧ q = .int .i64 k ∧ k0 ≤ k ∧ k ≤ k0 + 4 * (W j : Int) ∧ j ≤ n ∧ Hid (wr.rowIs g 149 (n * 6) f') ∧ Hid (∀ i, i < n → Nd.Own wr (g + 1) C (f' (i * 6 + 4)) (mc i) ∧ Nd.Own wr (g + 1) C (f' (i * 6 + 5)) (me i)) ∧ Hid (Amid w wr B C)) (fun _ i _ => n - (intOf i).toNat)
  case atStart => exact ⟨0, k0, f, rfl, rfl, by omega, by rw [HW0.out]; omega, Nat.zero_le _, HR, HO, hid (Amid.refl _ _ _)⟩
  case round =>
    obtain ⟨j, k, f', rfl, rfl, hk1, hk2, hj, HW, HV, HAM⟩ := hrel
    by_cases hlt : j < n
    · have q1 : (j : Int) < (n : Int) := by omega
      have hws := HS.out j hlt
      have hwt := HT.out (j + 1)
      have hmj : mc j ≤ 1048576 := by omega
      have hmj2 : me j ≤ 1048576 := by omega
      have d0 := HW.out.cell (i := j * 6) (by omega)
      have d1 := HW.out.cell (i := j * 6 + 1) (by omega)
      have z0 := HW.out.frozen (j * 6)
      have z1 := HW.out.frozen (j * 6 + 1)
      have hgl := HW.out.lt
      have HR1 := hid ((HW.out.set (j * 6) (.int .i64 k)).set (j * 6 + 1) (.int .i64 (k + 1)))
      have HA1 := hid ((HAM.out.trans (Amid.set wr (j * 6) (.int .i64 k) hB hC)).trans (Amid.set _ (j * 6 + 1) (.int .i64 (k + 1)) hB hC))
      have HV1 : Hid (∀ i, i < n → Nd.Own ((wr.setCell ⟨g, j * 6, none⟩ (.int .i64 k)).setCell ⟨g, j * 6 + 1, none⟩ (.int .i64 (k + 1))) (g + 1) C (f' (i * 6 + 4)) (mc i) ∧ Nd.Own ((wr.setCell ⟨g, j * 6, none⟩ (.int .i64 k)).setCell ⟨g, j * 6 + 1, none⟩ (.int .i64 (k + 1))) (g + 1) C (f' (i * 6 + 5)) (me i)) := hid (fun i hi => ⟨ownSet (ownSet (HV.out i hi).1 (by omega) _) (by omega) _, ownSet (ownSet (HV.out i hi).2 (by omega) _) (by omega) _⟩)
      go_wp2_with fail
      generalize (wr.setCell ⟨g, j * 6, none⟩ (.int .i64 k)).setCell ⟨g, j * 6 + 1, none⟩ (.int .i64 (k + 1)) = wA at *
      refine (markText' _ _ (by omega) (by omega)).mono ?_
      rintro e w1 ⟨⟨s1, rfl⟩, hb1⟩
      have hr1 := HR1.out.of_block (w' := w1) (hb1.block _ HR1.out.lt)
      have d2 := hr1.cell (i := j * 6 + 2) (by omega)
      have d3 := hr1.cell (i := j * 6 + 3) (by omega)
      have z2 := hr1.frozen (j * 6 + 2)
      have z3 := hr1.frozen (j * 6 + 3)
      have hgl1 := hr1.lt
      have HR2 := hid ((hr1.set (j * 6 + 2) (.string s1)).set (j * 6 + 3) (.int .i64 (k + 1 + 1 + 1)))
      have HA2 := hid (((HA1.out.trans (Amid.of_below hb1)).trans (Amid.set w1 (j * 6 + 2) (.string s1) hB hC)).trans (Amid.set _ (j * 6 + 3) (.int .i64 (k + 1 + 1 + 1)) hB hC))
      have HV2 : Hid (∀ i, i < n → Nd.Own ((w1.setCell ⟨g, j * 6 + 2, none⟩ (.string s1)).setCell ⟨g, j * 6 + 3, none⟩ (.int .i64 (k + 1 + 1 + 1))) (g + 1) C (f' (i * 6 + 4)) (mc i) ∧ Nd.Own ((w1.setCell ⟨g, j * 6 + 2, none⟩ (.string s1)).setCell ⟨g, j * 6 + 3, none⟩ (.int .i64 (k + 1 + 1 + 1))) (g + 1) C (f' (i * 6 + 5)) (me i)) := hid (fun i hi => ⟨ownSet (ownSet (ownBelow (HV1.out i hi).1 hb1) (by omega) _) (by omega) _, ownSet (ownSet (ownBelow (HV1.out i hi).2 hb1) (by omega) _) (by omega) _⟩)
      generalize hF2 : (fun i => if i = j * 6 + 3 then Value.int .i64 (k + 1 + 1 + 1) else (fun i => if i = j * 6 + 2 then Value.string s1 else (fun i => if i = j * 6 + 1 then Value.int .i64 (k + 1) else (fun i => if i = j * 6 then Value.int .i64 k else f' i) i) i) i) = F2 at *
      have e4 : ∀ i, F2 (i * 6 + 4) = f' (i * 6 + 4) := fun i => by
        have h1 : ¬ i * 6 + 4 = j * 6 + 3 := by omega
        have h2 : ¬ i * 6 + 4 = j * 6 + 2 := by omega
        have h3 : ¬ i * 6 + 4 = j * 6 + 1 := by omega
        have h4 : ¬ i * 6 + 4 = j * 6 := by omega
        rw [← hF2]
        simp only [h1, h2, h3, h4, if_false]
      have e5 : ∀ i, F2 (i * 6 + 5) = f' (i * 6 + 5) := fun i => by
        have h1 : ¬ i * 6 + 5 = j * 6 + 3 := by omega
        have h2 : ¬ i * 6 + 5 = j * 6 + 2 := by omega
        have h3 : ¬ i * 6 + 5 = j * 6 + 1 := by omega
        have h4 : ¬ i * 6 + 5 = j * 6 := by omega
        rw [← hF2]
        simp only [h1, h2, h3, h4, if_false]
      have E4 := hid e4
      have E5 := hid e5
      have c4 := HR2.out.cell (i := j * 6 + 4) (by omega)
      have c5 := HR2.out.cell (i := j * 6 + 5) (by omega)
      rw [e4] at c4
      rw [e5] at c5
      have hoc := (HV2.out j hlt).1
      obtain ⟨gc, fc, hvc, hgc1, hgc2, hrc⟩ := hoc
      obtain ⟨ge, fe, hve, hge1, hge2, hre⟩ := (HV2.out j hlt).2
      have HVE := hid hve
      rw [hvc] at c4
      have hgl2 := HR2.out.lt
      have HRC := hid hrc
      clear hF2 hvc e4 e5 hrc hre hr1 c5
      go_wp2_with fail
      generalize (w1.setCell ⟨g, j * 6 + 2, none⟩ (.string s1)).setCell ⟨g, j * 6 + 3, none⟩ (.int .i64 (k + 1 + 1 + 1)) = wB at *
      refine (markNodes gc (mc j) fc (k + 1 + 1 + 1 + 1) _ hmj (by omega) (by omega) HRC.out).mono ?_
      rintro e w4 ⟨⟨r4, rfl, hr4a, hr4b⟩, hf4, hA4⟩
      have HV4 : Hid (∀ i, i < n → Nd.Own w4 (g + 1) C (f' (i * 6 + 4)) (mc i) ∧ Nd.Own w4 (g + 1) C (f' (i * 6 + 5)) (me i)) := hid (fun i hi => ⟨ownAmid (HV2.out i hi).1 hA4 HRC.out hf4, ownAmid (HV2.out i hi).2 hA4 HRC.out hf4⟩)
      have HR4 := hid (HR2.out.of_block (w' := w4) (hA4.block g HR2.out.lt (.inl (by omega))))
      have HA4 := hid (HA2.out.trans (hA4.mono (by omega) (by omega)))
      have c5 := HR4.out.cell (i := j * 6 + 5) (by omega)
      have hgl4 := HR4.out.lt
      rw [E5.out] at c5
      obtain ⟨ge', fe', hve', hge1', hge2', hre'⟩ := (HV4.out j hlt).2
      rw [hve'] at c5
      have HRE := hid hre'
      clear hve' hre' hf4 hA4
      go_wp2_with fail
      refine (markNodes ge' (me j) fe' r4 _ hmj2 (by omega) (by omega) HRE.out).mono ?_
      rintro e w5 ⟨⟨r5, rfl, hr5a, hr5b⟩, hf5, hA5⟩
      have HV5 : Hid (∀ i, i < n → Nd.Own w5 (g + 1) C (F2 (i * 6 + 4)) (mc i) ∧ Nd.Own w5 (g + 1) C (F2 (i * 6 + 5)) (me i)) := hid (fun i hi => by
        rw [E4.out, E5.out]
        exact ⟨ownAmid (HV4.out i hi).1 hA5 HRE.out hf5, ownAmid (HV4.out i hi).2 hA5 HRE.out hf5⟩)
      have HR5 := hid (HR4.out.of_block (w' := w5) (hA5.block g HR4.out.lt (.inl (by omega))))
      have HA5 := hid (HA4.out.trans (hA5.mono (by omega) (by omega)))
      clear hf5 hA5
      go_wp2
      exact ⟨⟨j + 1, r5, F2, by simp, rfl, by omega, by omega, by omega, HR5, HV5, HA5⟩, by simp [intOf]; omega⟩
    · obtain rfl : j = n := by omega
      go_wp2
      go_ret
      exact ⟨⟨_, rfl, hk1, by rw [← HE.out]; exact hk2⟩, HAM.out⟩
end St
namespace Ep
open Ex (hid)
open St (StepD Amid lenC lenE)
theorem wt_take_le (ss : List (List StepD)) (k : Nat) : wt (ss.take k) ≤ wt ss := by
  induction ss generalizing k with
  | nil => simp [wt]
  | cons s ss ih =>
    cases k with
    | zero => simp [wt]
    | succ k => have := ih k; simp only [List.take_succ_cons, wt]; omega
theorem len_le_wt (ss : List (List StepD)) : ss.length ≤ wt ss := by
  induction ss with
  | nil => simp [wt]
  | cons s ss ih => simp only [List.length_cons, wt]; omega
theorem wt_mem {ss : List (List StepD)} {j : Nat} (h : j < ss.length) : St.wt ss[j] ≤ wt ss := by
  have h1 := wt_take h
  have h2 := wt_take_le ss (j + 1)
  unfold wt1 at h1; omega
set_option maxRecDepth 100000 in
set_option maxHeartbeats 4000000 in
theorem markS (B C : Nat) (v : Value) (ss : List (List StepD)) (k0 : Int) (w : World) (h0 : 1 ≤ k0) (hk0 : k0 ≤ 100000000) (hwt : wt ss ≤ 1048576) (h : Own w B C v ss.length ss) :
    Calls Tryz.prog 16 #[v, .int .i64 k0] w fun e w' => (∃ r : Int, e = .returned (.int .i64 r) ∧ k0 ≤ r ∧ r ≤ k0 + 4 * (wt ss : Int)) ∧ Amid w w' B C := by
  obtain ⟨g, f, rfl, hB, hC, hr, lo, hi, hv, ho⟩ := h
  have HR := hid hr
  have HO : Hid (∀ j (h : j < ss.length), St.Own w (lo j) (hi j) (f j) ss[j].length (lenC ss[j]) (lenE ss[j])) := hid ho
  have HV := hid hv
  have HS : Hid (∀ j (h : j < ss.length), wt (ss.take (j + 1)) = wt (ss.take j) + 1 + St.wt ss[j]) := hid (fun j hj => wt_take hj)
  have HT : Hid (∀ j, wt (ss.take j) ≤ 1048576) := hid (fun j => Nat.le_trans (wt_take_le ss j) hwt)
  have HE : Hid (wt (ss.take ss.length) = wt ss) := hid (by rw [List.take_of_length_le (Nat.le_refl _)])
  have hn2 : ss.length ≤ 1048576 := Nat.le_trans (len_le_wt ss) hwt
  have HM : Hid (∀ j (h : j < ss.length), St.wt ss[j] ≤ 1048576) := hid (fun j h => Nat.le_trans (wt_mem h) hwt)
  clear hr ho hv hwt
  go_enter Tryz.func16, Tryz.ntmps16
  go_wp2
  go_loopw [1, 5] (fun q i wr => ∃ (j : Nat) (k : Int), i = .int .i64 j ∧ q = .int .i64 k ∧ k0 ≤ k ∧ k ≤ k0 + 4 * (wt (ss.take j) : Int) ∧ j ≤ ss.length ∧ Hid (wr.rowIs g 80 (ss.length * 1) f) ∧ Hid (∀ i (h : i < ss.length), j ≤ i → St.Own wr (lo i) (hi i) (f i) ss[i].length (lenC ss[i]) (lenE ss[i])) ∧ Hid (Amid w wr B C)) (fun _ i _ => ss.length - (intOf i).toNat)
  case atStart => exact ⟨0, k0, rfl, rfl, by omega, by simp [wt], Nat.zero_le _, HR, hid (fun i h _ => HO.out i h), hid (Amid.refl _ _ _)⟩
  case round =>
    obtain ⟨j, k, rfl, rfl, hk1, hk2, hj, HW, HQ, HAM⟩ := hrel
    by_cases hlt : j < ss.length
    · have q1 : (j : Int) < (ss.length : Int) := by omega
      have c0 : wr.cell? ⟨g, j, none⟩ = some (f j) := HW.out.cell (i := j) (by omega)
      have hgl := HW.out.lt
      have hown := HQ.out j hlt (Nat.le_refl _)
      have hws := HS.out j hlt
      have hwt := HT.out (j + 1)
      have hwm := HM.out j hlt
      obtain ⟨g1, f1, hv1, _⟩ := id hown
      have HC := hid (St.markSteps2 (lo j) (hi j) (f j) ss[j] k wr (by omega) (by omega) hwm hown)
      rw [hv1] at c0 HC
      have hiv := HV.out.base j hlt
      clear hown hv1
      go_wp2_with fail
      refine HC.out.mono ?_
      rintro e w1 ⟨⟨r, rfl, hr1, hr2⟩, ham⟩
      have HW1 := hid (HW.out.of_block (w' := w1) (ham.block g HW.out.lt (.inl (by omega))))
      have HQ1 : Hid (∀ i (h : i < ss.length), j + 1 ≤ i → St.Own w1 (lo i) (hi i) (f i) ss[i].length (lenC ss[i]) (lenE ss[i])) := hid (fun i hi' hji => own1Kept (HQ.out i hi' (by omega)) (fun b hb1 hb2 hb3 => ham.block b hb3 (by have := HV.out.sep j i (by omega) hi'; omega)))
      have HA1 := hid (HAM.out.trans (ham.mono (by omega) hiv.2))
      clear ham HC
      go_wp2
      exact ⟨⟨j + 1, r, by simp, rfl, by omega, by omega, by omega, HW1, HQ1, HA1⟩, by simp [intOf]; omega⟩
    · obtain rfl : j = ss.length := by omega
      go_wp2
      go_ret
      exact ⟨⟨_, rfl, hk1, by rw [← HE.out]; exact hk2⟩, HAM.out⟩
end Ep
end Go.Proofs.YtkelmhkakdeghaaGreatDoor
