/- The law's marks in a row of records (Flow): they are written into that row and its nodes alone. -/
import Derived.Test.YtkmcfdcdgcdpgaaDoorFlB
namespace Go.Proofs.YtkmcfdcdgcdpgaaDoor
open Go.RowKit Go.Deep
set_option linter.unusedVariables false
namespace Fl
open Ex (hid)
open Nd (NodeD)
open Rc
set_option maxRecDepth 100000 in
set_option maxHeartbeats 8000000 in
theorem markS (B C : Nat) (v : Value) (n : Nat) (mc : Nat → Nat) (k0 : Int) (w : World) (hn : n ≤ 1048576) (hk0 : 1 ≤ k0) (hk1 : k0 ≤ 8796093022208) (hmc : ∀ j, j < n → mc j ≤ 1048576) (h : Own w B C v n mc) :
    Calls Tryd.prog 34 #[v, .int .i64 k0] w fun e w' => (∃ r : Int, e = .returned (.int .i64 r) ∧ k0 ≤ r ∧ r ≤ k0 + 4194306 * (n : Int)) ∧ Amid w w' B C := by
  obtain ⟨g, f, rfl, hB, hC, hr, ho⟩ := h
  have HR := hid hr
  have HO := hid ho
  have HMC := hid hmc
  clear hr ho hmc
  go_enter Tryd.func34, Tryd.ntmps34
  go_wp2
  go_loopw [1, 5] (fun q i wr => ∃ (j : Nat) (k : Int) (f' : Nat → Value), i = .int .i64 j ∧ q = .int .i64 k ∧ k0 ≤ k ∧ k ≤ k0 + 4194306 * (j : Int) ∧ j ≤ n ∧ Hid (wr.rowIs g 54 (n * 3) f') ∧ Hid (∀ i, i < n → Nd.Own wr (g + 1) C (f' (i * 3 + 2)) (mc i)) ∧ Hid (Amid w wr B C)) (fun _ i _ => n - (intOf i).toNat)
  case atStart => exact ⟨0, k0, f, rfl, rfl, by omega, by omega, Nat.zero_le _, HR, HO, hid (Amid.refl _ _ _)⟩
  case round =>
    obtain ⟨j, k, f', rfl, rfl, hk1, hk2, hj, HW, HV, HAM⟩ := hrel
    by_cases hlt : j < n
    · have q1 : (j : Int) < (n : Int) := by omega
      have hmj := HMC.out j hlt
      have d0 := HW.out.cell (i := j * 3) (by omega)
      have z0 := HW.out.frozen (j * 3)
      have d1 := HW.out.cell (i := j * 3 + 1) (by omega)
      have z1 := HW.out.frozen (j * 3 + 1)
      have hgl1 := HW.out.lt
      have HR1 := hid ((HW.out.set (j * 3) (.int .i64 k)).set (j * 3 + 1) (.int .i64 (k + 1)))
      have HA1 := hid ((HAM.out.trans (Amid.set wr (j * 3) (.int .i64 k) hB hC)).trans (Amid.set _ (j * 3 + 1) (.int .i64 (k + 1)) hB hC))
      have HV1 : Hid (∀ i, i < n → Nd.Own ((wr.setCell ⟨g, j * 3, none⟩ (.int .i64 k)).setCell ⟨g, j * 3 + 1, none⟩ (.int .i64 (k + 1))) (g + 1) C (f' (i * 3 + 2)) (mc i)) := hid (fun i hi => ownSet (ownSet (HV.out i hi) (by omega) _) (by omega) _)
      generalize hF2 : (fun i => if i = j * 3 + 1 then Value.int .i64 (k + 1) else (fun i => if i = j * 3 then Value.int .i64 k else f' i) i) = F2 at *
      have e4 : ∀ i, F2 (i * 3 + 2) = f' (i * 3 + 2) := fun i => by
        have h0 : ¬ i * 3 + 2 = j * 3 := by omega
        have h1 : ¬ i * 3 + 2 = j * 3 + 1 := by omega
        rw [← hF2]
        simp only [h0, h1, if_false]
      have E4 := hid e4
      have c4 := HR1.out.cell (i := j * 3 + 2) (by omega)
      rw [e4] at c4
      obtain ⟨gc, fc, hvc, hgc1, hgc2, hrc⟩ := HV1.out j hlt
      rw [hvc] at c4
      have hgl9 := HR1.out.lt
      have HRC := hid hrc
      clear hF2 hvc e4 hrc
      go_wp2_with fail
      generalize ((wr.setCell ⟨g, j * 3, none⟩ (.int .i64 k)).setCell ⟨g, j * 3 + 1, none⟩ (.int .i64 (k + 1))) = wB at *
      have HMN := hid (markNodes gc (mc j) fc (k + 1 + 1) wB hmj (by omega) (by omega) HRC.out)
      refine HMN.out.mono ?_
      rintro e w4 ⟨⟨r4, rfl, hr4a, hr4b⟩, hf4, hA4⟩
      have HV9 : Hid (∀ i, i < n → Nd.Own w4 (g + 1) C (F2 (i * 3 + 2)) (mc i)) := hid (fun i hi => by
        rw [E4.out]
        exact ownAmid (HV1.out i hi) hA4 HRC.out hf4)
      have HR9 := hid (HR1.out.of_block (w' := w4) (hA4.block g HR1.out.lt (.inl (by omega))))
      have HA9 := hid (HA1.out.trans (hA4.mono (by omega) (by omega)))
      clear hf4 hA4 HMN
      go_wp2
      exact ⟨⟨j + 1, r4, F2, by simp, rfl, by omega, by push_cast; omega, by omega, HR9, HV9, HA9⟩, by simp [intOf]; omega⟩
    · obtain rfl : j = n := by omega
      go_wp2
      go_ret
      exact ⟨⟨_, rfl, hk1, hk2⟩, HAM.out⟩
end Fl
end Go.Proofs.YtkmcfdcdgcdpgaaDoor
