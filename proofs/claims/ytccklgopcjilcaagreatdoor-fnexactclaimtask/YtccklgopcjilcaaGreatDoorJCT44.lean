/- The specification's copy of an engine, l11Copy: it has memory of its own. -/
import Derived.Test.YtccklgopcjilcaaGreatDoorJCT42
import Derived.Test.YtccklgopcjilcaaGreatDoorJCT43
import Derived.Test.YtccklgopcjilcaaGreatDoorJCT41
import Derived.Deep.RegionHeld3
import Derived.Deep.Cut
namespace Go.Proofs.YtccklgopcjilcaaGreatDoor
open Go.RowKit Go.Deep
set_option linter.unusedVariables false
set_option linter.unusedSimpArgs false
namespace Eo
open Ex (hid)
open Nst (own flat own_lt own_kept own_slice)
open St (StepD)
open Ei (InstD)
open En (EngD)
abbrev InP (n : Nat) (lo hi : Nat → Nat) (b : Nat) : Prop := ∃ i, i < n ∧ lo i ≤ b ∧ b < hi i
/-- The copy under way: its processes are there. -/
def CutP (e : EngD) (w0 wx : World) (O : Nat) (u : Value) : Prop :=
  wx.heap[O]? = some (.cells #[u, .slice none 0 0, .int .i64 e.now] 27) ∧ w0.heap.size ≤ O ∧ Below w0.heap.size w0 wx ∧ ∃ pv C E lo hi, PRow wx w0.heap.size u e.procs pv C E lo hi ∧ ∀ b, own u b ∨ InP e.procs.length lo hi b → b ≠ O
set_option maxRecDepth 100000 in
set_option maxHeartbeats 16000000 in
theorem specEngineCopy (B : Nat) (e : EngD) (vp vi : Value) (w : World) (hs : En.Small 1048576 e) (ha : En.At w B vp vi e) :
    Calls Tryz.prog 68 #[.agg #[vp, vi, .int .i64 e.now]] w fun z w' => (∃ up ui, z = .returned (.agg #[up, ui, .int .i64 e.now]) ∧ EOwn w' w.heap.size up ui e) ∧ Below w.heap.size w w' := by
  obtain ⟨a1, k1, rfl⟩ := ha.procs.slice
  obtain ⟨a2, k2, rfl⟩ := ha.insts.slice
  have hlp := hs.procs.1
  have hli := hs.insts.1
  obtain ⟨ji, hji, hi0, hi1, hi2⟩ := info_parts Ei.infoR
  obtain ⟨w0, e0⟩ : ∃ w0, w0 = (w.alloc (.cells #[.slice a1 e.procs.length k1, .slice a2 e.insts.length k2, .int .i64 e.now] 27)).alloc (.cells #[.slice none 0 0, .slice none 0 0, .int .i64 0] 27) := ⟨_, rfl⟩
  have hb0 : Below w.heap.size w w0 := by rw [e0]; exact ((Below.refl _ w).alloc (Nat.le_refl _) _).alloc (by simp) _
  have HD00 : Hid (w0.heap[w.heap.size]? = some (.cells #[.slice a1 e.procs.length k1, .slice a2 e.insts.length k2, .int .i64 e.now] 27)) := hid (by rw [e0, Below.heap_alloc _ _ _ (by simp), Ch.new_blk])
  have HR0 : Hid (w0.heap[w.heap.size + 1]? = some (.cells #[.slice none 0 0, .slice none 0 0, .int .i64 0] 27)) := hid (by rw [e0]; exact Ch.new_at (by simp) _)
  have HZ0 : Hid (w0.heap.size = w.heap.size + 2) := hid (by rw [e0]; simp)
  have HA := hid ha
  have HS0 := hid hs
  have HB0 := hid hb0
  have HC := hid (fun wy (hb : Below w0.heap.size w0 wy) => specCopies B e.procs _ wy hs.procs ((ha.below hb0).below hb).procs)
  have hbd : Below w0.heap.size w0 w0.drew := (Below.refl _ w0).drew
  have HD0 : Hid (w0.drew.heap[w.heap.size]? = some (.cells #[.slice a1 e.procs.length k1, .slice a2 e.insts.length k2, .int .i64 e.now] 27)) := hid HD00.out
  clear ha hs hb0
  go_enter Tryz.func68, Tryz.ntmps68
  go_wp2
  rw [← e0]
  clear e0
  go_cut [3] from 11 (fun s3 wx => ∃ O q1 q2, s3 = .pointer (some ⟨O, 0, none⟩) ∧ Hid (CutP e w0 wx O (.slice q1 e.procs.length q2)))
  case first =>
    refine wp_region_held_drew (S := fun wx => wx.heap[w.heap.size]? = some (.cells #[.slice a1 e.procs.length k1, .slice a2 e.insts.length k2, .int .i64 e.now] 27)) (by kernel_rfl) HD0.out (fun hHeld => ?_)
    refine wpAnyH_take (i := 0) (v := .pointer (some ⟨w.heap.size, 0, none⟩)) rfl (by kernel_rfl) (by kernel_rfl) (by kernel_rfl) (fun _ _ _ h => h) (Or.inl ⟨by kernel_rfl, by intro w hSw; (try dsimp only at hSw); go_simp⟩) (by assumption) ?_
    simp only [Act.put, List.setIfInBounds_toArray, List.set_cons_zero, List.set_cons_succ]
    refine wpAnyH_take (i := 1) (v := .slice a1 e.procs.length k1) rfl (by kernel_rfl) (by kernel_rfl) (by kernel_rfl) (fun _ _ _ h => h) (Or.inl ⟨by kernel_rfl, by intro w hSw; (try dsimp only at hSw); have m0 := Ch.blk_cell hSw 0; have m1 := Ch.blk_cell hSw 1; have m2 := Ch.blk_cell hSw 2; clear hSw; go_simp⟩) (by assumption) ?_
    simp only [Act.put, List.setIfInBounds_toArray, List.set_cons_zero, List.set_cons_succ]
    refine wpAnyH_take (i := 3) (v := .pointer (some ⟨w.heap.size, 2, none⟩)) rfl (by kernel_rfl) (by kernel_rfl) (by kernel_rfl) (fun _ _ _ h => h) (Or.inl ⟨by kernel_rfl, by intro w hSw; (try dsimp only at hSw); go_simp⟩) (by assumption) ?_
    simp only [Act.put, List.setIfInBounds_toArray, List.set_cons_zero, List.set_cons_succ]
    refine wpAnyH_take (i := 4) (v := .int .i64 e.now) rfl (by kernel_rfl) (by kernel_rfl) (by kernel_rfl) (fun _ _ _ h => h) (Or.inl ⟨by kernel_rfl, by intro w hSw; (try dsimp only at hSw); have m0 := Ch.blk_cell hSw 0; have m1 := Ch.blk_cell hSw 1; have m2 := Ch.blk_cell hSw 2; clear hSw; go_simp⟩) (by assumption) ?_
    simp only [Act.put, List.setIfInBounds_toArray, List.set_cons_zero, List.set_cons_succ]
    refine wpAnyH_ready (rs := [2, 6]) (by kernel_rfl) (by simp) ?_
    refine (AllReadyH.cons rfl (fun K hK => ?_) (AllReadyH.cons rfl (fun K hK => ?_) AllReadyH.nil))
    · go_simp
      go_at_call 97
      refine (HC.out w0.drew hbd).mono ?_
      rintro z q ⟨⟨u, rfl, hu⟩, hbu⟩
      obtain ⟨q1, q2, hq⟩ : ∃ q1 q2, u = .slice q1 e.procs.length q2 := by obtain ⟨_, _, _, _, _, h⟩ := hu; exact own_slice h.row
      subst hq
      have HDq : Hid (q.heap[w.heap.size]? = some (.cells #[.slice a1 e.procs.length k1, .slice a2 e.insts.length k2, .int .i64 e.now] 27)) := hid ((hbu.block _ (Ch.blk_lt HD0.out)).trans HD0.out)
      have HBq := hid (hbd.trans (hbu.mono hbd.size))
      have HUq := hid hu
      clear hu hbu
      go_wp2_with fail
      refine hK.out _ _ HDq.out (fun hHeld => ?_)
      clear hK K
      try simp only [Act.put, List.setIfInBounds_toArray, List.set_cons_zero, List.set_cons_succ]
      refine wpAnyH_take (i := 5) (v := .agg #[.slice q1 e.procs.length q2, .slice none 0 0, .int .i64 e.now]) rfl (by kernel_rfl) (by kernel_rfl) (by kernel_rfl) (fun _ _ _ h => h) (Or.inl ⟨by kernel_rfl, by intro w hSw; (try dsimp only at hSw); go_simp⟩) (by assumption) ?_
      simp only [Act.put, List.setIfInBounds_toArray, List.set_cons_zero, List.set_cons_succ]
      refine wpAnyH_ready (rs := [6]) (by kernel_rfl) (by simp) ?_
      refine AllReadyH.cons rfl (fun K hK => ?_) AllReadyH.nil
      go_simp
      obtain ⟨x, ex⟩ : ∃ x, x = q.alloc (.cells #[.slice none 0 0, .slice none 0 0, .int .i64 0] 27) := ⟨_, rfl⟩
      have hbx : Below q.heap.size q x := by rw [ex]; exact (Below.refl _ q).alloc (Nat.le_refl _) _
      obtain ⟨O, eO⟩ : ∃ O, O = q.heap.size := ⟨_, rfl⟩
      have HO1 : Hid (x.heap[O]? = some (.cells #[.slice none 0 0, .slice none 0 0, .int .i64 0] 27)) := hid (by rw [ex, eO]; exact Ch.new_blk _ _)
      have HD1 : Hid (x.heap[w.heap.size]? = some (.cells #[.slice a1 e.procs.length k1, .slice a2 e.insts.length k2, .int .i64 e.now] 27)) := hid ((hbx.block _ (Ch.blk_lt HDq.out)).trans HDq.out)
      have HB1 : Hid (Below w0.heap.size w0 x) := hid (HBq.out.trans (hbx.mono HBq.out.size))
      have HL1 : Hid (w0.heap.size ≤ O) := hid (by rw [eO]; exact HBq.out.size)
      have HU1 : Hid (∃ pv C E lo hi, PRow x w0.heap.size (.slice q1 e.procs.length q2) e.procs pv C E lo hi ∧ ∀ b, own (.slice q1 e.procs.length q2) b ∨ InP e.procs.length lo hi b → b ≠ O) := hid (by obtain ⟨pv, C, E, lo, hi, h⟩ := HUq.out; exact ⟨pv, C, E, lo, hi, (h.mono hbd.size).below hbx, fun b hb => by have := (h.in hb).2; omega⟩)
      rw [← ex, ← eO]
      clear ex eO hbx HUq HBq HDq
      refine hK.out _ _ HD1.out (fun hHeld => ?_)
      clear hK K
      try simp only [Act.put, List.setIfInBounds_toArray, List.set_cons_zero, List.set_cons_succ]
      have t0 := Ch.blk_free HO1.out 0
      have t1 := Ch.blk_free HO1.out 1
      have t2 := Ch.blk_free HO1.out 2
      have z0 : x.cell? ⟨O, 0, none⟩ = some (.slice none 0 0) := Ch.blk_cell HO1.out 0
      have z1 : x.cell? ⟨O, 1, none⟩ = some (.slice none 0 0) := Ch.blk_cell HO1.out 1
      have z2 : x.cell? ⟨O, 2, none⟩ = some (.int .i64 0) := Ch.blk_cell HO1.out 2
      have zl := Ch.blk_lt HO1.out
      have oth : ∀ b, b ≠ O → (((x.setCell ⟨O, 0, none⟩ (.slice q1 e.procs.length q2)).setCell ⟨O, 1, none⟩ (.slice none 0 0)).setCell ⟨O, 2, none⟩ (.int .i64 e.now)).heap[b]? = x.heap[b]? := fun b hb => by repeat rw [Below.heap_setCell _ _ _ _ (by dsimp only; omega)]
      have HCU : Hid (CutP e w0 (((x.setCell ⟨O, 0, none⟩ (.slice q1 e.procs.length q2)).setCell ⟨O, 1, none⟩ (.slice none 0 0)).setCell ⟨O, 2, none⟩ (.int .i64 e.now)) O (.slice q1 e.procs.length q2)) := hid (by
        obtain ⟨pv, C, E, lo, hi, hF, hne⟩ := HU1.out
        refine ⟨by have := Ch.blk_set (i := 2) (Ch.blk_set (i := 1) (Ch.blk_set (i := 0) HO1.out (.slice q1 e.procs.length q2)) (.slice none 0 0)) (.int .i64 e.now); simpa using this, HL1.out, ?_, pv, C, E, lo, hi, hF.kept (by simp [World.setCell]) (fun b hx hl => oth b (hne b hx)), hne⟩
        exact St.setB (St.setB (St.setB HB1.out HL1.out _) HL1.out _) HL1.out _)
      have hDs : (((x.setCell ⟨O, 0, none⟩ (.slice q1 e.procs.length q2)).setCell ⟨O, 1, none⟩ (.slice none 0 0)).setCell ⟨O, 2, none⟩ (.int .i64 e.now)).heap[w.heap.size]? = some (.cells #[.slice a1 e.procs.length k1, .slice a2 e.insts.length k2, .int .i64 e.now] 27) := (oth _ (by have := HL1.out; have := HZ0.out; omega)).trans HD1.out
      refine wpAnyH_ready (rs := [7]) (by kernel_rfl) (by simp) ?_
      refine AllReadyH.cons rfl (fun K hK => ?_) AllReadyH.nil
      go_simp
      refine hK.out _ _ hDs (fun hHeld => ?_)
      clear hK K
      try simp only [Act.put, List.setIfInBounds_toArray, List.set_cons_zero, List.set_cons_succ]
      refine wpAnyH_done (by kernel_rfl) ?_ _
      clear hHeld t0 t1 t2 z0 z1 z2 zl oth hDs
      go_wp2_with fail
      go_meet
      exact ⟨_, _, _, rfl, HCU⟩
    · go_simp
      obtain ⟨x0, ex⟩ : ∃ x0, x0 = (w0.alloc (.cells #[.slice none 0 0, .slice none 0 0, .int .i64 0] 27)).drew := ⟨_, rfl⟩
      have hbx : Below w0.heap.size w0 x0 := by rw [ex]; exact ((Below.refl _ w0).alloc (Nat.le_refl _) _).drew
      obtain ⟨O, eO⟩ : ∃ O, O = w0.heap.size := ⟨_, rfl⟩
      have HO0 : Hid (x0.heap[O]? = some (.cells #[.slice none 0 0, .slice none 0 0, .int .i64 0] 27)) := hid (by rw [ex, eO]; exact Ch.new_blk _ _)
      have hzx : O < x0.heap.size := Ch.blk_lt HO0.out
      have HDx : Hid (x0.heap[w.heap.size]? = some (.cells #[.slice a1 e.procs.length k1, .slice a2 e.insts.length k2, .int .i64 e.now] 27)) := hid ((hbx.block _ (Ch.blk_lt HD00.out)).trans HD00.out)
      rw [← ex, ← eO]
      have HBx := hid hbx
      have HL1 : Hid (w0.heap.size ≤ O) := hid (Nat.le_of_eq eO.symm)
      clear ex eO hbx
      refine hK.out _ _ HDx.out (fun hHeld => ?_)
      clear hK K
      try simp only [Act.put, List.setIfInBounds_toArray, List.set_cons_zero, List.set_cons_succ]
      refine wpAnyH_ready (rs := [2]) (by kernel_rfl) (by simp) ?_
      refine AllReadyH.cons rfl (fun K hK => ?_) AllReadyH.nil
      go_simp
      go_at_call 97
      refine (HC.out x0 HBx.out).mono ?_
      rintro z x ⟨⟨u, rfl, hu⟩, hbu⟩
      obtain ⟨q1, q2, hq⟩ : ∃ q1 q2, u = .slice q1 e.procs.length q2 := by obtain ⟨_, _, _, _, _, h⟩ := hu; exact own_slice h.row
      subst hq
      have HD1 : Hid (x.heap[w.heap.size]? = some (.cells #[.slice a1 e.procs.length k1, .slice a2 e.insts.length k2, .int .i64 e.now] 27)) := hid ((hbu.block _ (Ch.blk_lt HDx.out)).trans HDx.out)
      have HB1 : Hid (Below w0.heap.size w0 x) := hid (HBx.out.trans (hbu.mono HBx.out.size))
      have HO1 : Hid (x.heap[O]? = some (.cells #[.slice none 0 0, .slice none 0 0, .int .i64 0] 27)) := hid ((hbu.block _ hzx).trans HO0.out)
      have HU1 : Hid (∃ pv C E lo hi, PRow x w0.heap.size (.slice q1 e.procs.length q2) e.procs pv C E lo hi ∧ ∀ b, own (.slice q1 e.procs.length q2) b ∨ InP e.procs.length lo hi b → b ≠ O) := hid (by obtain ⟨pv, C, E, lo, hi, h⟩ := hu; exact ⟨pv, C, E, lo, hi, h.mono HBx.out.size, fun b hb => by have := (h.in hb).1; omega⟩)
      clear hu hbu
      go_wp2_with fail
      refine hK.out _ _ HD1.out (fun hHeld => ?_)
      clear hK K
      try simp only [Act.put, List.setIfInBounds_toArray, List.set_cons_zero, List.set_cons_succ]
      refine wpAnyH_take (i := 5) (v := .agg #[.slice q1 e.procs.length q2, .slice none 0 0, .int .i64 e.now]) rfl (by kernel_rfl) (by kernel_rfl) (by kernel_rfl) (fun _ _ _ h => h) (Or.inl ⟨by kernel_rfl, by intro w hSw; (try dsimp only at hSw); go_simp⟩) (by assumption) ?_
      simp only [Act.put, List.setIfInBounds_toArray, List.set_cons_zero, List.set_cons_succ]
      have t0 := Ch.blk_free HO1.out 0
      have t1 := Ch.blk_free HO1.out 1
      have t2 := Ch.blk_free HO1.out 2
      have z0 : x.cell? ⟨O, 0, none⟩ = some (.slice none 0 0) := Ch.blk_cell HO1.out 0
      have z1 : x.cell? ⟨O, 1, none⟩ = some (.slice none 0 0) := Ch.blk_cell HO1.out 1
      have z2 : x.cell? ⟨O, 2, none⟩ = some (.int .i64 0) := Ch.blk_cell HO1.out 2
      have zl := Ch.blk_lt HO1.out
      have oth : ∀ b, b ≠ O → (((x.setCell ⟨O, 0, none⟩ (.slice q1 e.procs.length q2)).setCell ⟨O, 1, none⟩ (.slice none 0 0)).setCell ⟨O, 2, none⟩ (.int .i64 e.now)).heap[b]? = x.heap[b]? := fun b hb => by repeat rw [Below.heap_setCell _ _ _ _ (by dsimp only; omega)]
      have HCU : Hid (CutP e w0 (((x.setCell ⟨O, 0, none⟩ (.slice q1 e.procs.length q2)).setCell ⟨O, 1, none⟩ (.slice none 0 0)).setCell ⟨O, 2, none⟩ (.int .i64 e.now)) O (.slice q1 e.procs.length q2)) := hid (by
        obtain ⟨pv, C, E, lo, hi, hF, hne⟩ := HU1.out
        refine ⟨by have := Ch.blk_set (i := 2) (Ch.blk_set (i := 1) (Ch.blk_set (i := 0) HO1.out (.slice q1 e.procs.length q2)) (.slice none 0 0)) (.int .i64 e.now); simpa using this, HL1.out, ?_, pv, C, E, lo, hi, hF.kept (by simp [World.setCell]) (fun b hx hl => oth b (hne b hx)), hne⟩
        exact St.setB (St.setB (St.setB HB1.out HL1.out _) HL1.out _) HL1.out _)
      have hDs : (((x.setCell ⟨O, 0, none⟩ (.slice q1 e.procs.length q2)).setCell ⟨O, 1, none⟩ (.slice none 0 0)).setCell ⟨O, 2, none⟩ (.int .i64 e.now)).heap[w.heap.size]? = some (.cells #[.slice a1 e.procs.length k1, .slice a2 e.insts.length k2, .int .i64 e.now] 27) := (oth _ (by have := HL1.out; have := HZ0.out; omega)).trans HD1.out
      refine wpAnyH_ready (rs := [7]) (by kernel_rfl) (by simp) ?_
      refine AllReadyH.cons rfl (fun K hK => ?_) AllReadyH.nil
      go_simp
      refine hK.out _ _ hDs (fun hHeld => ?_)
      clear hK K
      try simp only [Act.put, List.setIfInBounds_toArray, List.set_cons_zero, List.set_cons_succ]
      refine wpAnyH_done (by kernel_rfl) ?_ _
      clear hHeld t0 t1 t2 z0 z1 z2 zl oth hDs
      go_wp2_with fail
      go_meet
      exact ⟨_, _, _, rfl, HCU⟩
  case rest =>
    obtain ⟨O, a7, c7, rfl, HCU⟩ := hcut
    obtain ⟨hO1, hO2, hO3, pv, C, E, lo, hi, hF, hne⟩ := HCU.out
    have HPR := hid hF
    have HNE := hid hne
    have HKO := hid hO1
    have hOz := HZ0.out
    have HB1 := hid (HB0.out.trans (hO3.mono HB0.out.size))
    have HD1 : Hid (wc.heap[w.heap.size]? = some (.cells #[.slice a1 e.procs.length k1, .slice a2 e.insts.length k2, .int .i64 e.now] 27)) := hid ((hO3.block _ (Ch.blk_lt HD00.out)).trans HD00.out)
    have HR1 : Hid (wc.heap[w.heap.size + 1]? = some (.cells #[.slice none 0 0, .slice none 0 0, .int .i64 0] 27)) := hid ((hO3.block _ (Ch.blk_lt HR0.out)).trans HR0.out)
    obtain ⟨M, hM⟩ : ∃ M, M = wc.heap.size := ⟨_, rfl⟩
    have hOM : O < M := by rw [hM]; exact Ch.blk_lt hO1
    have hM3 := hO3.size
    have HKr : Hid (∀ b, b < M → b ≠ O → wc.heap[b]? = wc.heap[b]?) := hid (fun _ _ _ => rfl)
    clear HCU hF hne hO1 hO3 HC HB0 HD00 HD0 HR0 hbd
    go_wp2_with fail
    generalize hw1 : wc = w1 at *
    have HS1 : Hid (M = w1.heap.size) := hid hM
    clear hw1
    go_loopw [4] (fun i wr => ∃ (k : Nat), i = .int .i64 k ∧ k ≤ e.insts.length ∧ Hid (∃ v, wr.heap[O]? = some (.cells #[.slice a7 e.procs.length c7, v, .int .i64 e.now] 27) ∧ IOwn wr M v (e.insts.take k)) ∧ Hid (∀ b, b < M → b ≠ O → wr.heap[b]? = w1.heap[b]?) ∧ Hid (Below w.heap.size w wr) ∧ M ≤ wr.heap.size) (fun i _ => e.insts.length - (intOf i).toNat)
    case atStart => exact ⟨0, rfl, Nat.zero_le _, hid ⟨_, HKO.out, _, _, _, _, _, IRow.nil _ _⟩, by first | exact HKr | exact hid (fun _ _ _ => True.intro) | simp [Hid], HB1, Nat.le_of_eq hM⟩
    case round =>
      clear HKr HKO
      obtain ⟨k, rfl, hkl, HU, HK, HB, lM⟩ := hrel
      have lw := HB.out.size
      have HPk : Hid (wr.heap[w.heap.size]? = some (.cells #[.slice a1 e.procs.length k1, .slice a2 e.insts.length k2, .int .i64 e.now] 27)) := hid ((HK.out _ (by omega) (by omega)).trans HD1.out)
      have lD := Ch.blk_lt HPk.out
      by_cases hlt : k < e.insts.length
      · have t1 : (k : Int) < (e.insts.length : Int) := by omega
        obtain ⟨g, o, x1, x2, x3, rfl, hgw, c0, c1, c2, c3, c4, c5, hc⟩ := HA.out.insts.at hlt
        obtain ⟨b1, l1, rfl⟩ := hc.vars.slice
        obtain ⟨b2, l2, rfl⟩ := hc.marks.slice
        obtain ⟨b3, l3, rfl⟩ := hc.dues.slice
        have hsm := HS0.out.insts.at hlt
        have HTS := hid (take_s hlt)
        obtain ⟨v, hk2, u1, u2, u3, lo8, hi8, hF⟩ := HU.out
        have hF2 := hF.row
        obtain ⟨a8, c8, hu7⟩ := own_slice hF2
        subst hu7
        have hn24 : (e.insts.take k).length ≤ 1048576 := by simp; omega
        generalize e.insts[k] = x at *
        generalize hL : e.insts.take k = L at *
        clear hL HU hF2
        have HSd : Hid (wr.heap[O]? = some (.cells #[.slice a7 e.procs.length c7, .slice a8 L.length c8, .int .i64 e.now] 27)) := hid hk2
        have yO := Ch.blk_lt HSd.out
        have hbd2 : Below wr.heap.size wr wr.drew := (Below.refl _ wr).drew
        have HC2 := hid (fun wy (hb : Below wr.heap.size wr wy) => Kx.specChartCopy B x.chart _ _ _ wy hsm (hc.below (HB.out.trans (hb.mono lw))))
        have HPd : Hid (wr.drew.heap[w.heap.size]? = some (.cells #[.slice a1 e.procs.length k1, .slice (some ⟨g, o, none⟩) e.insts.length k2, .int .i64 e.now] 27)) := hid HPk.out
        have m1 : wr.cell? ⟨w.heap.size, 1, none⟩ = some (.slice (some ⟨g, o, none⟩) e.insts.length k2) := Ch.blk_cell HPk.out 1
        have HEF := hid hF
        replace c2 : w.cell? ⟨g, o + k * 6 + 1 + 1, none⟩ = some (.int .i64 x.chart.now) := c2
        replace c3 : w.cell? ⟨g, o + k * 6 + 1 + 2, none⟩ = some (.slice b1 x.chart.vars.length l1) := c3
        replace c4 : w.cell? ⟨g, o + k * 6 + 1 + 3, none⟩ = some (.slice b2 x.chart.marks.length l2) := c4
        replace c5 : w.cell? ⟨g, o + k * 6 + 1 + 4, none⟩ = some (.slice b3 x.chart.dues.length l3) := c5
        clear hF hc hk2
        go_wp2
        clear m1
        refine wp_region_held_drew (S := fun wx => Below w.heap.size w wx ∧ wx.heap[w.heap.size]? = some (.cells #[.slice a1 e.procs.length k1, .slice (some ⟨g, o, none⟩) e.insts.length k2, .int .i64 e.now] 27)) (by kernel_rfl) ⟨HB.out.drew, HPd.out⟩ (fun hHeld => ?_)
        refine wpAnyH_take (i := 0) (v := .pointer (some ⟨O, 1, none⟩)) rfl (by kernel_rfl) (by kernel_rfl) (by kernel_rfl) (fun _ _ _ h => h) (Or.inl ⟨by kernel_rfl, by intro w hSw; (try dsimp only at hSw); go_simp⟩) (by assumption) ?_
        simp only [Act.put, List.setIfInBounds_toArray, List.set_cons_zero, List.set_cons_succ]
        refine wpAnyH_take (i := 2) (v := .pointer (some ⟨w.heap.size, 1, none⟩)) rfl (by kernel_rfl) (by kernel_rfl) (by kernel_rfl) (fun _ _ _ h => h) (Or.inl ⟨by kernel_rfl, by intro w hSw; (try dsimp only at hSw); go_simp⟩) (by assumption) ?_
        simp only [Act.put, List.setIfInBounds_toArray, List.set_cons_zero, List.set_cons_succ]
        refine wpAnyH_take (i := 3) (v := .slice (some ⟨g, o, none⟩) e.insts.length k2) rfl (by kernel_rfl) (by kernel_rfl) (by kernel_rfl) (fun _ _ _ h => h) (Or.inl ⟨by kernel_rfl, by intro w hSw; (try dsimp only at hSw); have m0 := Ch.blk_cell hSw.2 0; have m1 := Ch.blk_cell hSw.2 1; have m2 := Ch.blk_cell hSw.2 2; clear hSw; go_simp⟩) (by assumption) ?_
        simp only [Act.put, List.setIfInBounds_toArray, List.set_cons_zero, List.set_cons_succ]
        refine wpAnyH_take (i := 4) (v := .int .i64 (k : Int)) rfl (by kernel_rfl) (by kernel_rfl) (by kernel_rfl) (fun _ _ _ h => h) (Or.inl ⟨by kernel_rfl, by intro w hSw; (try dsimp only at hSw); go_simp⟩) (by assumption) ?_
        simp only [Act.put, List.setIfInBounds_toArray, List.set_cons_zero, List.set_cons_succ]
        refine wpAnyH_take (i := 5) (v := .pointer (some ⟨g, o + k * 6, none⟩)) rfl (by kernel_rfl) (by kernel_rfl) (by kernel_rfl) (fun _ _ _ h => h) (Or.inl ⟨by kernel_rfl, by intro w hSw; (try dsimp only at hSw); go_simp⟩) (by assumption) ?_
        simp only [Act.put, List.setIfInBounds_toArray, List.set_cons_zero, List.set_cons_succ]
        refine wpAnyH_take (i := 6) (v := .pointer (some ⟨g, o + k * 6, none⟩)) rfl (by kernel_rfl) (by kernel_rfl) (by kernel_rfl) (fun _ _ _ h => h) (Or.inl ⟨by kernel_rfl, by intro w hSw; (try dsimp only at hSw); go_simp⟩) (by assumption) ?_
        simp only [Act.put, List.setIfInBounds_toArray, List.set_cons_zero, List.set_cons_succ]
        refine wpAnyH_take (i := 7) (v := .int .i64 x.proc) rfl (by kernel_rfl) (by kernel_rfl) (by kernel_rfl) (fun _ _ _ h => h) (Or.inl ⟨by kernel_rfl, by intro w hSw; (try dsimp only at hSw); have c0 := St.old_cell hSw.1 hgw c0; clear hSw; go_simp⟩) (by assumption) ?_
        simp only [Act.put, List.setIfInBounds_toArray, List.set_cons_zero, List.set_cons_succ]
        refine wpAnyH_take (i := 8) (v := .pointer (some ⟨w.heap.size, 1, none⟩)) rfl (by kernel_rfl) (by kernel_rfl) (by kernel_rfl) (fun _ _ _ h => h) (Or.inl ⟨by kernel_rfl, by intro w hSw; (try dsimp only at hSw); go_simp⟩) (by assumption) ?_
        simp only [Act.put, List.setIfInBounds_toArray, List.set_cons_zero, List.set_cons_succ]
        refine wpAnyH_take (i := 9) (v := .slice (some ⟨g, o, none⟩) e.insts.length k2) rfl (by kernel_rfl) (by kernel_rfl) (by kernel_rfl) (fun _ _ _ h => h) (Or.inl ⟨by kernel_rfl, by intro w hSw; (try dsimp only at hSw); have m0 := Ch.blk_cell hSw.2 0; have m1 := Ch.blk_cell hSw.2 1; have m2 := Ch.blk_cell hSw.2 2; clear hSw; go_simp⟩) (by assumption) ?_
        simp only [Act.put, List.setIfInBounds_toArray, List.set_cons_zero, List.set_cons_succ]
        refine wpAnyH_take (i := 10) (v := .int .i64 (k : Int)) rfl (by kernel_rfl) (by kernel_rfl) (by kernel_rfl) (fun _ _ _ h => h) (Or.inl ⟨by kernel_rfl, by intro w hSw; (try dsimp only at hSw); go_simp⟩) (by assumption) ?_
        simp only [Act.put, List.setIfInBounds_toArray, List.set_cons_zero, List.set_cons_succ]
        refine wpAnyH_take (i := 11) (v := .pointer (some ⟨g, o + k * 6, none⟩)) rfl (by kernel_rfl) (by kernel_rfl) (by kernel_rfl) (fun _ _ _ h => h) (Or.inl ⟨by kernel_rfl, by intro w hSw; (try dsimp only at hSw); go_simp⟩) (by assumption) ?_
        simp only [Act.put, List.setIfInBounds_toArray, List.set_cons_zero, List.set_cons_succ]
        refine wpAnyH_take (i := 12) (v := .pointer (some ⟨g, o + k * 6 + 1, none⟩)) rfl (by kernel_rfl) (by kernel_rfl) (by kernel_rfl) (fun _ _ _ h => h) (Or.inl ⟨by kernel_rfl, by intro w hSw; (try dsimp only at hSw); go_simp⟩) (by assumption) ?_
        simp only [Act.put, List.setIfInBounds_toArray, List.set_cons_zero, List.set_cons_succ]
        refine wpAnyH_take (i := 13) (v := .agg #[.int .i64 x.chart.status, .int .i64 x.chart.now, .slice b1 x.chart.vars.length l1, .slice b2 x.chart.marks.length l2, .slice b3 x.chart.dues.length l3]) rfl (by kernel_rfl) (by kernel_rfl) (by kernel_rfl) (fun _ _ _ h => h) (Or.inl ⟨by kernel_rfl, by intro w hSw; (try dsimp only at hSw); have c1 := St.old_cell hSw.1 hgw c1; have c2 := St.old_cell hSw.1 hgw c2; have c3 := St.old_cell hSw.1 hgw c3; have c4 := St.old_cell hSw.1 hgw c4; have c5 := St.old_cell hSw.1 hgw c5; clear hSw; go_simp⟩) (by assumption) ?_
        simp only [Act.put, List.setIfInBounds_toArray, List.set_cons_zero, List.set_cons_succ]
        refine wpAnyH_ready (rs := [1, 14]) (by kernel_rfl) (by simp) ?_
        refine (AllReadyH.cons rfl (fun K hK => ?_) (AllReadyH.cons rfl (fun K hK => ?_) AllReadyH.nil))
        · have x1 : wr.cell? ⟨O, 1, none⟩ = some (.slice a8 L.length c8) := Ch.blk_cell HSd.out 1
          have x2 := Ch.blk_lt (HSd.out)
          go_simp
          clear x1 x2
          refine hK.out _ _ ⟨HB.out.drew, HPd.out⟩ (fun hHeld => ?_)
          clear hK K
          try simp only [Act.put, List.setIfInBounds_toArray, List.set_cons_zero, List.set_cons_succ]
          refine wpAnyH_ready (rs := [14]) (by kernel_rfl) (by simp) ?_
          refine AllReadyH.cons rfl (fun K hK => ?_) AllReadyH.nil
          go_simp
          go_at_call 119
          refine (HC2.out _ hbd2).mono ?_
          rintro z w3 ⟨⟨n1, n2, n3, rfl, hso⟩, hb3o⟩
          have hb3 := hbd2.trans (hb3o.mono hbd2.size)
          have HS3 : Hid (w3.heap[O]? = some (.cells #[.slice a7 e.procs.length c7, .slice a8 L.length c8, .int .i64 e.now] 27)) := hid ((hb3.block _ yO).trans HSd.out)
          have HPw3 : Hid (w3.heap[w.heap.size]? = some (.cells #[.slice a1 e.procs.length k1, .slice (some ⟨g, o, none⟩) e.insts.length k2, .int .i64 e.now] 27)) := hid ((hb3.block _ lD).trans HPk.out)
          obtain ⟨q1, p1, hq1⟩ := Ints.owns_slice hso.vars
          obtain ⟨q2, p2, hq2⟩ := Ints.owns_slice hso.marks
          obtain ⟨q3, p3, hq3⟩ := Ints.owns_slice hso.dues
          subst hq1 hq2 hq3
          have HB3 := hid hb3
          have HSO := hid hso
          have l3 := hb3.size
          have HBw3 := hid (HB.out.trans (hb3.mono lw))
          clear hb3 hb3o hso
          go_wp2_with fail
          refine hK.out _ _ ⟨HBw3.out, HPw3.out⟩ (fun hHeld => ?_)
          clear hK K
          try simp only [Act.put, List.setIfInBounds_toArray, List.set_cons_zero, List.set_cons_succ]
          refine wpAnyH_take (i := 15) (v := .agg #[.int .i64 x.proc, .int .i64 x.chart.status, .int .i64 x.chart.now, .slice q1 x.chart.vars.length p1, .slice q2 x.chart.marks.length p2, .slice q3 x.chart.dues.length p3]) rfl (by kernel_rfl) (by kernel_rfl) (by kernel_rfl) (fun _ _ _ h => h) (Or.inl ⟨by kernel_rfl, by intro w hSw; (try dsimp only at hSw); go_simp⟩) (by assumption) ?_
          simp only [Act.put, List.setIfInBounds_toArray, List.set_cons_zero, List.set_cons_succ]
          refine wpAnyH_ready (rs := [16]) (by kernel_rfl) (by simp) ?_
          refine AllReadyH.cons rfl (fun K hK => ?_) AllReadyH.nil
          go_simp
          refine hK.out _ _ ⟨HBw3.out.alloc HBw3.out.size _, (Below.heap_alloc _ _ _ (by omega)).trans HPw3.out⟩ (fun hHeld => ?_)
          clear hK K
          try simp only [Act.put, List.setIfInBounds_toArray, List.set_cons_zero, List.set_cons_succ]
          have HS4 : Hid ((w3.alloc (.cells #[.int .i64 x.proc, .int .i64 x.chart.status, .int .i64 x.chart.now, .slice q1 x.chart.vars.length p1, .slice q2 x.chart.marks.length p2, .slice q3 x.chart.dues.length p3] 114)).heap[O]? = some (.cells #[.slice a7 e.procs.length c7, .slice a8 L.length c8, .int .i64 e.now] 27)) := hid ((Below.heap_alloc _ _ _ (by omega)).trans HS3.out)
          have hb4 : Below wr.heap.size wr (w3.alloc (.cells #[.int .i64 x.proc, .int .i64 x.chart.status, .int .i64 x.chart.now, .slice q1 x.chart.vars.length p1, .slice q2 x.chart.marks.length p2, .slice q3 x.chart.dues.length p3] 114)) := HB3.out.alloc (by omega) _
          have hrow : Ap.Row (w3.alloc (.cells #[.int .i64 x.proc, .int .i64 x.chart.status, .int .i64 x.chart.now, .slice q1 x.chart.vars.length p1, .slice q2 x.chart.marks.length p2, .slice q3 x.chart.dues.length p3] 114)) 6 (.slice (some ⟨w3.heap.size, 0, none⟩) 1 1) 1 [.int .i64 x.proc, .int .i64 x.chart.status, .int .i64 x.chart.now, .slice q1 x.chart.vars.length p1, .slice q2 x.chart.marks.length p2, .slice q3 x.chart.dues.length p3] := ⟨_, _, rfl, rfl, (by simp [Value.oneCell']), .inr ⟨_, rfl, So.news #[.int .i64 x.proc, .int .i64 x.chart.status, .int .i64 x.chart.now, .slice q1 x.chart.vars.length p1, .slice q2 x.chart.marks.length p2, .slice q3 x.chart.dues.length p3] _ _ rfl⟩⟩
          have ho := own_kept HEF.out.row (fun b hb => hb4.block b (own_lt HEF.out.row hb).2)
          refine wpAnyH_ready (rs := [17]) (by kernel_rfl) (by simp) ?_
          refine AllReadyH.cons rfl (fun K hK => ?_) AllReadyH.nil
          refine Ap.step_any _ (by rfl) _ _ 25 (by rfl) M 114 ji (.agg #[.int .i64 0, .int .i64 0, .int .i64 0, .slice none 0 0, .slice none 0 0, .slice none 0 0]) 6 96 Tryz.underlying25 hji hi0 hi1 hi2 rfl (by decide) (.slice a8 L.length c8) L.length _ (by rfl) ho (.slice (some ⟨w3.heap.size, 0, none⟩) 1 1) 1 [.int .i64 x.proc, .int .i64 x.chart.status, .int .i64 x.chart.now, .slice q1 x.chart.vars.length p1, .slice q2 x.chart.marks.length p2, .slice q3 x.chart.dues.length p3] (by rfl) hrow (by unfold maxLen; omega) (by omega) (by simp; omega) (w3.heap.size + 1) (by simp) ?_
          intro a9 c9 w9 hown9 hg9 hat9
          have l9 := hg9.size
          rw [World.size_alloc] at l9
          have hov : ∀ b, own (.slice a8 L.length c8) b → M ≤ b ∧ b < wr.heap.size := fun b hb => own_lt HEF.out.row hb
          have HS9 : Hid (w9.heap[O]? = some (.cells #[.slice a7 e.procs.length c7, .slice a8 L.length c8, .int .i64 e.now] 27)) := hid ((hg9.block _ (by simp; omega) (fun e => by have := (hov _ e.symm).1; omega)).trans HS4.out)
          have hsat := HSO.out.below ((Below.refl w3.heap.size w3).alloc (Nat.le_refl _) (.cells #[.int .i64 x.proc, .int .i64 x.chart.status, .int .i64 x.chart.now, .slice q1 x.chart.vars.length p1, .slice q2 x.chart.marks.length p2, .slice q3 x.chart.dues.length p3] 114))
          have HO9 : Hid (IOwn w9 M (.slice a9 (L.length + 1) c9) (L ++ [x])) := hid ⟨_, _, _, _, _, IRow.push HEF.out (by omega) hb4 hbd2.size (IIn.of hsat) hown9 hg9 (by rcases hat9 with h | h; exact .inl h; exact .inr ⟨_, h, by simp⟩)⟩
          have HB9 : Hid (Below w.heap.size w w9) := hid ((HB.out.trans (hb4.mono lw)).grown hg9 (by simp; omega) (fun b e => by have := (hov b e).1; omega))
          have HK9 : Hid (∀ b, b < M → b ≠ O → w9.heap[b]? = w1.heap[b]?) := hid (fun b hb hne => (hg9.block _ (by simp; omega) (fun e => by have := (hov _ e.symm).1; omega)).trans ((hb4.block b (by omega)).trans (HK.out b hb hne)))
          have zR := Ch.blk_lt HS9.out
          have k9 : w9.cell? ⟨O, 1, none⟩ = some (.slice a8 L.length c8) := Ch.blk_cell HS9.out 1
          have fk9 := Ch.blk_free HS9.out 1
          have HP9 : Hid (w9.heap[w.heap.size]? = some (.cells #[.slice a1 e.procs.length k1, .slice (some ⟨g, o, none⟩) e.insts.length k2, .int .i64 e.now] 27)) := hid ((HK9.out _ (by omega) (by omega)).trans HD1.out)
          clear ho hrow hb4 hown9 hg9 hat9 hov HS4 hsat
          refine hK.out _ _ ⟨HB9.out, HP9.out⟩ (fun hHeld => ?_)
          clear hK K
          try simp only [Act.put, List.setIfInBounds_toArray, List.set_cons_zero, List.set_cons_succ]
          refine wpAnyH_take (i := 18) (v := .pointer (some ⟨O, 1, none⟩)) rfl (by kernel_rfl) (by kernel_rfl) (by kernel_rfl) (fun _ _ _ h => h) (Or.inl ⟨by kernel_rfl, by intro w hSw; (try dsimp only at hSw); go_simp⟩) (by assumption) ?_
          simp only [Act.put, List.setIfInBounds_toArray, List.set_cons_zero, List.set_cons_succ]
          have HU10 : Hid (∃ v, (w9.setCell ⟨O, 1, none⟩ (.slice a9 (L.length + 1) c9)).heap[O]? = some (.cells #[.slice a7 e.procs.length c7, v, .int .i64 e.now] 27) ∧ IOwn (w9.setCell ⟨O, 1, none⟩ (.slice a9 (L.length + 1) c9)) M v (e.insts.take (k + 1))) := hid ⟨_, Ch.blk_set (i := 1) HS9.out _, by
            obtain ⟨u19, u29, u39, lo9, hi9, h9⟩ := HO9.out
            rw [HTS.out]
            exact ⟨u19, u29, u39, lo9, hi9, h9.keep (Nat.le_of_eq Ch.size_set.symm) (fun b hb _ => Below.heap_setCell _ _ _ _ (by dsimp only; omega))⟩⟩
          have HK10 : Hid (∀ b, b < M → b ≠ O → (w9.setCell ⟨O, 1, none⟩ (.slice a9 (L.length + 1) c9)).heap[b]? = w1.heap[b]?) := hid (fun b hb hne => (Below.heap_setCell _ _ _ _ (by dsimp only; omega)).trans (HK9.out b hb hne))
          have HB10 : Hid (Below w.heap.size w (w9.setCell ⟨O, 1, none⟩ (.slice a9 (L.length + 1) c9))) := hid (HB9.out.setCell (p := ⟨O, 1, none⟩) (by dsimp only; omega) _)
          have HP10 : Hid ((w9.setCell ⟨O, 1, none⟩ (.slice a9 (L.length + 1) c9)).heap[w.heap.size]? = some (.cells #[.slice a1 e.procs.length k1, .slice (some ⟨g, o, none⟩) e.insts.length k2, .int .i64 e.now] 27)) := hid ((Below.heap_setCell _ _ _ _ (by dsimp only; omega)).trans HP9.out)
          have l10 : M ≤ (w9.setCell ⟨O, 1, none⟩ (.slice a9 (L.length + 1) c9)).heap.size := by rw [Ch.size_set]; omega
          refine wpAnyH_ready (rs := [19]) (by kernel_rfl) (by simp) ?_
          refine AllReadyH.cons rfl (fun K hK => ?_) AllReadyH.nil
          go_simp
          refine hK.out _ _ ⟨HB10.out, HP10.out⟩ (fun hHeld => ?_)
          clear hK K
          try simp only [Act.put, List.setIfInBounds_toArray, List.set_cons_zero, List.set_cons_succ]
          refine wpAnyH_done (by kernel_rfl) ?_ _
          clear hHeld k9 fk9 zR
          try simp only [List.getElem_toArray, List.getElem_cons_succ, List.getElem_cons_zero, Act.put, List.setIfInBounds_toArray, List.set_cons_zero, List.set_cons_succ]
          go_wp2
          exact ⟨⟨k + 1, by simp, by omega, HU10, HK10, HB10, l10⟩, by simp [intOf]; omega⟩
        · go_simp
          go_at_call 119
          refine (HC2.out _ hbd2).mono ?_
          rintro z w3 ⟨⟨n1, n2, n3, rfl, hso⟩, hb3o⟩
          have hb3 := hbd2.trans (hb3o.mono hbd2.size)
          have HS3 : Hid (w3.heap[O]? = some (.cells #[.slice a7 e.procs.length c7, .slice a8 L.length c8, .int .i64 e.now] 27)) := hid ((hb3.block _ yO).trans HSd.out)
          have HPw3 : Hid (w3.heap[w.heap.size]? = some (.cells #[.slice a1 e.procs.length k1, .slice (some ⟨g, o, none⟩) e.insts.length k2, .int .i64 e.now] 27)) := hid ((hb3.block _ lD).trans HPk.out)
          obtain ⟨q1, p1, hq1⟩ := Ints.owns_slice hso.vars
          obtain ⟨q2, p2, hq2⟩ := Ints.owns_slice hso.marks
          obtain ⟨q3, p3, hq3⟩ := Ints.owns_slice hso.dues
          subst hq1 hq2 hq3
          have HB3 := hid hb3
          have HSO := hid hso
          have l3 := hb3.size
          have HBw3 := hid (HB.out.trans (hb3.mono lw))
          clear hb3 hb3o hso
          go_wp2_with fail
          refine hK.out _ _ ⟨HBw3.out, HPw3.out⟩ (fun hHeld => ?_)
          clear hK K
          try simp only [Act.put, List.setIfInBounds_toArray, List.set_cons_zero, List.set_cons_succ]
          refine wpAnyH_take (i := 15) (v := .agg #[.int .i64 x.proc, .int .i64 x.chart.status, .int .i64 x.chart.now, .slice q1 x.chart.vars.length p1, .slice q2 x.chart.marks.length p2, .slice q3 x.chart.dues.length p3]) rfl (by kernel_rfl) (by kernel_rfl) (by kernel_rfl) (fun _ _ _ h => h) (Or.inl ⟨by kernel_rfl, by intro w hSw; (try dsimp only at hSw); go_simp⟩) (by assumption) ?_
          simp only [Act.put, List.setIfInBounds_toArray, List.set_cons_zero, List.set_cons_succ]
          refine wpAnyH_ready (rs := [1, 16]) (by kernel_rfl) (by simp) ?_
          refine (AllReadyH.cons rfl (fun K hK => ?_) (AllReadyH.cons rfl (fun K hK => ?_) AllReadyH.nil))
          · have x1 : w3.cell? ⟨O, 1, none⟩ = some (.slice a8 L.length c8) := Ch.blk_cell HS3.out 1
            have x2 := Ch.blk_lt (HS3.out)
            go_simp
            clear x1 x2
            refine hK.out _ _ ⟨HBw3.out, HPw3.out⟩ (fun hHeld => ?_)
            clear hK K
            try simp only [Act.put, List.setIfInBounds_toArray, List.set_cons_zero, List.set_cons_succ]
            refine wpAnyH_ready (rs := [16]) (by kernel_rfl) (by simp) ?_
            refine AllReadyH.cons rfl (fun K hK => ?_) AllReadyH.nil
            go_simp
            refine hK.out _ _ ⟨HBw3.out.alloc HBw3.out.size _, (Below.heap_alloc _ _ _ (by omega)).trans HPw3.out⟩ (fun hHeld => ?_)
            clear hK K
            try simp only [Act.put, List.setIfInBounds_toArray, List.set_cons_zero, List.set_cons_succ]
            have HS4 : Hid ((w3.alloc (.cells #[.int .i64 x.proc, .int .i64 x.chart.status, .int .i64 x.chart.now, .slice q1 x.chart.vars.length p1, .slice q2 x.chart.marks.length p2, .slice q3 x.chart.dues.length p3] 114)).heap[O]? = some (.cells #[.slice a7 e.procs.length c7, .slice a8 L.length c8, .int .i64 e.now] 27)) := hid ((Below.heap_alloc _ _ _ (by omega)).trans HS3.out)
            have hb4 : Below wr.heap.size wr (w3.alloc (.cells #[.int .i64 x.proc, .int .i64 x.chart.status, .int .i64 x.chart.now, .slice q1 x.chart.vars.length p1, .slice q2 x.chart.marks.length p2, .slice q3 x.chart.dues.length p3] 114)) := HB3.out.alloc (by omega) _
            have hrow : Ap.Row (w3.alloc (.cells #[.int .i64 x.proc, .int .i64 x.chart.status, .int .i64 x.chart.now, .slice q1 x.chart.vars.length p1, .slice q2 x.chart.marks.length p2, .slice q3 x.chart.dues.length p3] 114)) 6 (.slice (some ⟨w3.heap.size, 0, none⟩) 1 1) 1 [.int .i64 x.proc, .int .i64 x.chart.status, .int .i64 x.chart.now, .slice q1 x.chart.vars.length p1, .slice q2 x.chart.marks.length p2, .slice q3 x.chart.dues.length p3] := ⟨_, _, rfl, rfl, (by simp [Value.oneCell']), .inr ⟨_, rfl, So.news #[.int .i64 x.proc, .int .i64 x.chart.status, .int .i64 x.chart.now, .slice q1 x.chart.vars.length p1, .slice q2 x.chart.marks.length p2, .slice q3 x.chart.dues.length p3] _ _ rfl⟩⟩
            have ho := own_kept HEF.out.row (fun b hb => hb4.block b (own_lt HEF.out.row hb).2)
            refine wpAnyH_ready (rs := [17]) (by kernel_rfl) (by simp) ?_
            refine AllReadyH.cons rfl (fun K hK => ?_) AllReadyH.nil
            refine Ap.step_any _ (by rfl) _ _ 25 (by rfl) M 114 ji (.agg #[.int .i64 0, .int .i64 0, .int .i64 0, .slice none 0 0, .slice none 0 0, .slice none 0 0]) 6 96 Tryz.underlying25 hji hi0 hi1 hi2 rfl (by decide) (.slice a8 L.length c8) L.length _ (by rfl) ho (.slice (some ⟨w3.heap.size, 0, none⟩) 1 1) 1 [.int .i64 x.proc, .int .i64 x.chart.status, .int .i64 x.chart.now, .slice q1 x.chart.vars.length p1, .slice q2 x.chart.marks.length p2, .slice q3 x.chart.dues.length p3] (by rfl) hrow (by unfold maxLen; omega) (by omega) (by simp; omega) (w3.heap.size + 1) (by simp) ?_
            intro a9 c9 w9 hown9 hg9 hat9
            have l9 := hg9.size
            rw [World.size_alloc] at l9
            have hov : ∀ b, own (.slice a8 L.length c8) b → M ≤ b ∧ b < wr.heap.size := fun b hb => own_lt HEF.out.row hb
            have HS9 : Hid (w9.heap[O]? = some (.cells #[.slice a7 e.procs.length c7, .slice a8 L.length c8, .int .i64 e.now] 27)) := hid ((hg9.block _ (by simp; omega) (fun e => by have := (hov _ e.symm).1; omega)).trans HS4.out)
            have hsat := HSO.out.below ((Below.refl w3.heap.size w3).alloc (Nat.le_refl _) (.cells #[.int .i64 x.proc, .int .i64 x.chart.status, .int .i64 x.chart.now, .slice q1 x.chart.vars.length p1, .slice q2 x.chart.marks.length p2, .slice q3 x.chart.dues.length p3] 114))
            have HO9 : Hid (IOwn w9 M (.slice a9 (L.length + 1) c9) (L ++ [x])) := hid ⟨_, _, _, _, _, IRow.push HEF.out (by omega) hb4 hbd2.size (IIn.of hsat) hown9 hg9 (by rcases hat9 with h | h; exact .inl h; exact .inr ⟨_, h, by simp⟩)⟩
            have HB9 : Hid (Below w.heap.size w w9) := hid ((HB.out.trans (hb4.mono lw)).grown hg9 (by simp; omega) (fun b e => by have := (hov b e).1; omega))
            have HK9 : Hid (∀ b, b < M → b ≠ O → w9.heap[b]? = w1.heap[b]?) := hid (fun b hb hne => (hg9.block _ (by simp; omega) (fun e => by have := (hov _ e.symm).1; omega)).trans ((hb4.block b (by omega)).trans (HK.out b hb hne)))
            have zR := Ch.blk_lt HS9.out
            have k9 : w9.cell? ⟨O, 1, none⟩ = some (.slice a8 L.length c8) := Ch.blk_cell HS9.out 1
            have fk9 := Ch.blk_free HS9.out 1
            have HP9 : Hid (w9.heap[w.heap.size]? = some (.cells #[.slice a1 e.procs.length k1, .slice (some ⟨g, o, none⟩) e.insts.length k2, .int .i64 e.now] 27)) := hid ((HK9.out _ (by omega) (by omega)).trans HD1.out)
            clear ho hrow hb4 hown9 hg9 hat9 hov HS4 hsat
            refine hK.out _ _ ⟨HB9.out, HP9.out⟩ (fun hHeld => ?_)
            clear hK K
            try simp only [Act.put, List.setIfInBounds_toArray, List.set_cons_zero, List.set_cons_succ]
            refine wpAnyH_take (i := 18) (v := .pointer (some ⟨O, 1, none⟩)) rfl (by kernel_rfl) (by kernel_rfl) (by kernel_rfl) (fun _ _ _ h => h) (Or.inl ⟨by kernel_rfl, by intro w hSw; (try dsimp only at hSw); go_simp⟩) (by assumption) ?_
            simp only [Act.put, List.setIfInBounds_toArray, List.set_cons_zero, List.set_cons_succ]
            have HU10 : Hid (∃ v, (w9.setCell ⟨O, 1, none⟩ (.slice a9 (L.length + 1) c9)).heap[O]? = some (.cells #[.slice a7 e.procs.length c7, v, .int .i64 e.now] 27) ∧ IOwn (w9.setCell ⟨O, 1, none⟩ (.slice a9 (L.length + 1) c9)) M v (e.insts.take (k + 1))) := hid ⟨_, Ch.blk_set (i := 1) HS9.out _, by
              obtain ⟨u19, u29, u39, lo9, hi9, h9⟩ := HO9.out
              rw [HTS.out]
              exact ⟨u19, u29, u39, lo9, hi9, h9.keep (Nat.le_of_eq Ch.size_set.symm) (fun b hb _ => Below.heap_setCell _ _ _ _ (by dsimp only; omega))⟩⟩
            have HK10 : Hid (∀ b, b < M → b ≠ O → (w9.setCell ⟨O, 1, none⟩ (.slice a9 (L.length + 1) c9)).heap[b]? = w1.heap[b]?) := hid (fun b hb hne => (Below.heap_setCell _ _ _ _ (by dsimp only; omega)).trans (HK9.out b hb hne))
            have HB10 : Hid (Below w.heap.size w (w9.setCell ⟨O, 1, none⟩ (.slice a9 (L.length + 1) c9))) := hid (HB9.out.setCell (p := ⟨O, 1, none⟩) (by dsimp only; omega) _)
            have HP10 : Hid ((w9.setCell ⟨O, 1, none⟩ (.slice a9 (L.length + 1) c9)).heap[w.heap.size]? = some (.cells #[.slice a1 e.procs.length k1, .slice (some ⟨g, o, none⟩) e.insts.length k2, .int .i64 e.now] 27)) := hid ((Below.heap_setCell _ _ _ _ (by dsimp only; omega)).trans HP9.out)
            have l10 : M ≤ (w9.setCell ⟨O, 1, none⟩ (.slice a9 (L.length + 1) c9)).heap.size := by rw [Ch.size_set]; omega
            refine wpAnyH_ready (rs := [19]) (by kernel_rfl) (by simp) ?_
            refine AllReadyH.cons rfl (fun K hK => ?_) AllReadyH.nil
            go_simp
            refine hK.out _ _ ⟨HB10.out, HP10.out⟩ (fun hHeld => ?_)
            clear hK K
            try simp only [Act.put, List.setIfInBounds_toArray, List.set_cons_zero, List.set_cons_succ]
            refine wpAnyH_done (by kernel_rfl) ?_ _
            clear hHeld k9 fk9 zR
            try simp only [List.getElem_toArray, List.getElem_cons_succ, List.getElem_cons_zero, Act.put, List.setIfInBounds_toArray, List.set_cons_zero, List.set_cons_succ]
            go_wp2
            exact ⟨⟨k + 1, by simp, by omega, HU10, HK10, HB10, l10⟩, by simp [intOf]; omega⟩
          · go_simp
            refine hK.out _ _ ⟨HBw3.out.alloc HBw3.out.size _, (Below.heap_alloc _ _ _ (by omega)).trans HPw3.out⟩ (fun hHeld => ?_)
            clear hK K
            try simp only [Act.put, List.setIfInBounds_toArray, List.set_cons_zero, List.set_cons_succ]
            refine wpAnyH_ready (rs := [1]) (by kernel_rfl) (by simp) ?_
            refine AllReadyH.cons rfl (fun K hK => ?_) AllReadyH.nil
            have x1 : w3.cell? ⟨O, 1, none⟩ = some (.slice a8 L.length c8) := Ch.blk_cell HS3.out 1
            have x2 := Ch.blk_lt (HS3.out)
            go_simp
            clear x1 x2
            refine hK.out _ _ ⟨HBw3.out.alloc HBw3.out.size _, (Below.heap_alloc _ _ _ (by omega)).trans HPw3.out⟩ (fun hHeld => ?_)
            clear hK K
            try simp only [Act.put, List.setIfInBounds_toArray, List.set_cons_zero, List.set_cons_succ]
            have HS4 : Hid ((w3.alloc (.cells #[.int .i64 x.proc, .int .i64 x.chart.status, .int .i64 x.chart.now, .slice q1 x.chart.vars.length p1, .slice q2 x.chart.marks.length p2, .slice q3 x.chart.dues.length p3] 114)).heap[O]? = some (.cells #[.slice a7 e.procs.length c7, .slice a8 L.length c8, .int .i64 e.now] 27)) := hid ((Below.heap_alloc _ _ _ (by omega)).trans HS3.out)
            have hb4 : Below wr.heap.size wr (w3.alloc (.cells #[.int .i64 x.proc, .int .i64 x.chart.status, .int .i64 x.chart.now, .slice q1 x.chart.vars.length p1, .slice q2 x.chart.marks.length p2, .slice q3 x.chart.dues.length p3] 114)) := HB3.out.alloc (by omega) _
            have hrow : Ap.Row (w3.alloc (.cells #[.int .i64 x.proc, .int .i64 x.chart.status, .int .i64 x.chart.now, .slice q1 x.chart.vars.length p1, .slice q2 x.chart.marks.length p2, .slice q3 x.chart.dues.length p3] 114)) 6 (.slice (some ⟨w3.heap.size, 0, none⟩) 1 1) 1 [.int .i64 x.proc, .int .i64 x.chart.status, .int .i64 x.chart.now, .slice q1 x.chart.vars.length p1, .slice q2 x.chart.marks.length p2, .slice q3 x.chart.dues.length p3] := ⟨_, _, rfl, rfl, (by simp [Value.oneCell']), .inr ⟨_, rfl, So.news #[.int .i64 x.proc, .int .i64 x.chart.status, .int .i64 x.chart.now, .slice q1 x.chart.vars.length p1, .slice q2 x.chart.marks.length p2, .slice q3 x.chart.dues.length p3] _ _ rfl⟩⟩
            have ho := own_kept HEF.out.row (fun b hb => hb4.block b (own_lt HEF.out.row hb).2)
            refine wpAnyH_ready (rs := [17]) (by kernel_rfl) (by simp) ?_
            refine AllReadyH.cons rfl (fun K hK => ?_) AllReadyH.nil
            refine Ap.step_any _ (by rfl) _ _ 25 (by rfl) M 114 ji (.agg #[.int .i64 0, .int .i64 0, .int .i64 0, .slice none 0 0, .slice none 0 0, .slice none 0 0]) 6 96 Tryz.underlying25 hji hi0 hi1 hi2 rfl (by decide) (.slice a8 L.length c8) L.length _ (by rfl) ho (.slice (some ⟨w3.heap.size, 0, none⟩) 1 1) 1 [.int .i64 x.proc, .int .i64 x.chart.status, .int .i64 x.chart.now, .slice q1 x.chart.vars.length p1, .slice q2 x.chart.marks.length p2, .slice q3 x.chart.dues.length p3] (by rfl) hrow (by unfold maxLen; omega) (by omega) (by simp; omega) (w3.heap.size + 1) (by simp) ?_
            intro a9 c9 w9 hown9 hg9 hat9
            have l9 := hg9.size
            rw [World.size_alloc] at l9
            have hov : ∀ b, own (.slice a8 L.length c8) b → M ≤ b ∧ b < wr.heap.size := fun b hb => own_lt HEF.out.row hb
            have HS9 : Hid (w9.heap[O]? = some (.cells #[.slice a7 e.procs.length c7, .slice a8 L.length c8, .int .i64 e.now] 27)) := hid ((hg9.block _ (by simp; omega) (fun e => by have := (hov _ e.symm).1; omega)).trans HS4.out)
            have hsat := HSO.out.below ((Below.refl w3.heap.size w3).alloc (Nat.le_refl _) (.cells #[.int .i64 x.proc, .int .i64 x.chart.status, .int .i64 x.chart.now, .slice q1 x.chart.vars.length p1, .slice q2 x.chart.marks.length p2, .slice q3 x.chart.dues.length p3] 114))
            have HO9 : Hid (IOwn w9 M (.slice a9 (L.length + 1) c9) (L ++ [x])) := hid ⟨_, _, _, _, _, IRow.push HEF.out (by omega) hb4 hbd2.size (IIn.of hsat) hown9 hg9 (by rcases hat9 with h | h; exact .inl h; exact .inr ⟨_, h, by simp⟩)⟩
            have HB9 : Hid (Below w.heap.size w w9) := hid ((HB.out.trans (hb4.mono lw)).grown hg9 (by simp; omega) (fun b e => by have := (hov b e).1; omega))
            have HK9 : Hid (∀ b, b < M → b ≠ O → w9.heap[b]? = w1.heap[b]?) := hid (fun b hb hne => (hg9.block _ (by simp; omega) (fun e => by have := (hov _ e.symm).1; omega)).trans ((hb4.block b (by omega)).trans (HK.out b hb hne)))
            have zR := Ch.blk_lt HS9.out
            have k9 : w9.cell? ⟨O, 1, none⟩ = some (.slice a8 L.length c8) := Ch.blk_cell HS9.out 1
            have fk9 := Ch.blk_free HS9.out 1
            have HP9 : Hid (w9.heap[w.heap.size]? = some (.cells #[.slice a1 e.procs.length k1, .slice (some ⟨g, o, none⟩) e.insts.length k2, .int .i64 e.now] 27)) := hid ((HK9.out _ (by omega) (by omega)).trans HD1.out)
            clear ho hrow hb4 hown9 hg9 hat9 hov HS4 hsat
            refine hK.out _ _ ⟨HB9.out, HP9.out⟩ (fun hHeld => ?_)
            clear hK K
            try simp only [Act.put, List.setIfInBounds_toArray, List.set_cons_zero, List.set_cons_succ]
            refine wpAnyH_take (i := 18) (v := .pointer (some ⟨O, 1, none⟩)) rfl (by kernel_rfl) (by kernel_rfl) (by kernel_rfl) (fun _ _ _ h => h) (Or.inl ⟨by kernel_rfl, by intro w hSw; (try dsimp only at hSw); go_simp⟩) (by assumption) ?_
            simp only [Act.put, List.setIfInBounds_toArray, List.set_cons_zero, List.set_cons_succ]
            have HU10 : Hid (∃ v, (w9.setCell ⟨O, 1, none⟩ (.slice a9 (L.length + 1) c9)).heap[O]? = some (.cells #[.slice a7 e.procs.length c7, v, .int .i64 e.now] 27) ∧ IOwn (w9.setCell ⟨O, 1, none⟩ (.slice a9 (L.length + 1) c9)) M v (e.insts.take (k + 1))) := hid ⟨_, Ch.blk_set (i := 1) HS9.out _, by
              obtain ⟨u19, u29, u39, lo9, hi9, h9⟩ := HO9.out
              rw [HTS.out]
              exact ⟨u19, u29, u39, lo9, hi9, h9.keep (Nat.le_of_eq Ch.size_set.symm) (fun b hb _ => Below.heap_setCell _ _ _ _ (by dsimp only; omega))⟩⟩
            have HK10 : Hid (∀ b, b < M → b ≠ O → (w9.setCell ⟨O, 1, none⟩ (.slice a9 (L.length + 1) c9)).heap[b]? = w1.heap[b]?) := hid (fun b hb hne => (Below.heap_setCell _ _ _ _ (by dsimp only; omega)).trans (HK9.out b hb hne))
            have HB10 : Hid (Below w.heap.size w (w9.setCell ⟨O, 1, none⟩ (.slice a9 (L.length + 1) c9))) := hid (HB9.out.setCell (p := ⟨O, 1, none⟩) (by dsimp only; omega) _)
            have HP10 : Hid ((w9.setCell ⟨O, 1, none⟩ (.slice a9 (L.length + 1) c9)).heap[w.heap.size]? = some (.cells #[.slice a1 e.procs.length k1, .slice (some ⟨g, o, none⟩) e.insts.length k2, .int .i64 e.now] 27)) := hid ((Below.heap_setCell _ _ _ _ (by dsimp only; omega)).trans HP9.out)
            have l10 : M ≤ (w9.setCell ⟨O, 1, none⟩ (.slice a9 (L.length + 1) c9)).heap.size := by rw [Ch.size_set]; omega
            refine wpAnyH_ready (rs := [19]) (by kernel_rfl) (by simp) ?_
            refine AllReadyH.cons rfl (fun K hK => ?_) AllReadyH.nil
            go_simp
            refine hK.out _ _ ⟨HB10.out, HP10.out⟩ (fun hHeld => ?_)
            clear hK K
            try simp only [Act.put, List.setIfInBounds_toArray, List.set_cons_zero, List.set_cons_succ]
            refine wpAnyH_done (by kernel_rfl) ?_ _
            clear hHeld k9 fk9 zR
            try simp only [List.getElem_toArray, List.getElem_cons_succ, List.getElem_cons_zero, Act.put, List.setIfInBounds_toArray, List.set_cons_zero, List.set_cons_succ]
            go_wp2
            exact ⟨⟨k + 1, by simp, by omega, HU10, HK10, HB10, l10⟩, by simp [intOf]; omega⟩
      · have HX : Hid (∃ v, wr.heap[O]? = some (.cells #[.slice a7 e.procs.length c7, v, .int .i64 e.now] 27) ∧ IOwn wr M v e.insts) := hid (by
          have := HU.out
          rw [List.take_of_length_le (by omega)] at this
          exact this)
        obtain ⟨v, hk2, u1, u2, u3, lo8, hi8, hF⟩ := HX.out
        obtain ⟨a8, c8, hu7⟩ := own_slice hF.row
        subst hu7
        have HE : Hid (EOwn wr w0.heap.size (.slice a7 e.procs.length c7) (.slice a8 e.insts.length c8) e) := hid ⟨pv, C, E, lo, hi, u1, u2, u3, lo8, hi8, HPR.out.kept (by have := HS1.out; omega) (fun b hx hl => HK.out b (by have := HS1.out; omega) (HNE.out b hx)), hF.mono (by omega), fun b h1 h2 => by have := (HPR.out.in h1).2; have := (hF.in h2).1; have := HS1.out; omega⟩
        have m0 : wr.cell? ⟨O, 0, none⟩ = some (.slice a7 e.procs.length c7) := Ch.blk_cell hk2 0
        have m1 : wr.cell? ⟨O, 1, none⟩ = some (.slice a8 e.insts.length c8) := Ch.blk_cell hk2 1
        have m2 : wr.cell? ⟨O, 2, none⟩ = some (.int .i64 e.now) := Ch.blk_cell hk2 2
        have hq : wr.heap[w.heap.size + 1]? = some (.cells #[.slice none 0 0, .slice none 0 0, .int .i64 0] 27) := (HK.out _ (by omega) (by omega)).trans HR1.out
        have n0 : wr.cell? ⟨w.heap.size + 1, 0, none⟩ = some (.slice none 0 0) := Ch.blk_cell hq 0
        have n1 : wr.cell? ⟨w.heap.size + 1, 1, none⟩ = some (.slice none 0 0) := Ch.blk_cell hq 1
        have n2 : wr.cell? ⟨w.heap.size + 1, 2, none⟩ = some (.int .i64 0) := Ch.blk_cell hq 2
        have f0 := Ch.blk_free hq 0
        have f1 := Ch.blk_free hq 1
        have f2 := Ch.blk_free hq 2
        have z0 := Ch.blk_lt hk2
        have z1 := Ch.blk_lt hq
        have p1 : wr.cell? ⟨w.heap.size, 1, none⟩ = some (.slice a2 e.insts.length k2) := Ch.blk_cell HPk.out 1
        clear hk2 hF HX HU hq HPk
        go_wp2
        refine bodyPost_ret (v := .agg #[.slice a7 e.procs.length c7, .slice a8 e.insts.length c8, .int .i64 e.now]) (by simp [results, Tryz.results68, go_sem, n0, n1, n2]) rfl ⟨⟨_, _, rfl, ?_⟩, ?_⟩
        · exact (HE.out.keep (by simp [World.setCell]) (fun b hb _ => by repeat rw [Below.heap_setCell _ _ _ _ (by dsimp only; omega)])).mono (by omega)
        · exact ((HB.out.setCell (p := ⟨w.heap.size + 1, 0, none⟩) (by dsimp only; omega) _).setCell (p := ⟨w.heap.size + 1, 1, none⟩) (by dsimp only; omega) _).setCell (p := ⟨w.heap.size + 1, 2, none⟩) (by dsimp only; omega) _
end Eo
end Go.Proofs.YtccklgopcjilcaaGreatDoor
