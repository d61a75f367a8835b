/- Laid together: DmJ, DcB, DcC. -/
import Derived.Test.YtccklgopcjilcaaGreatDoorJWF43
import Derived.Deep.RegionHeld3
import Derived.Test.YtccklgopcjilcaaGreatDoorJWF34
import Derived.Deep.RegionLaw
/- The program's fault of a claim. -/
namespace Go.Proofs.YtccklgopcjilcaaGreatDoor
open Go.RowKit Go.Deep
set_option linter.unusedVariables false
set_option linter.unusedSimpArgs false
namespace Dk
open En (EngD)
open Cl (ClD)
open Eg (engC)
open Ex (inR hid)
open Ch (blk_cell blk_lt new_blk new_at)
set_option maxRecDepth 100000 in
set_option maxHeartbeats 8000000 in
theorem implClaimFault (e : EngD) (vp vi : Value) (c : ClD) (B : Nat) (w : World) (hs : En.Small 1048576 e) (ha : En.At w B vp vi e) (hk : engC e = 0) :
    Calls Tryz.prog 150 #[.agg #[vp, vi, .int .i64 e.now], .agg #[.int .i64 c.inst, .int .i64 c.step, .int .i64 c.user]] w fun z w' => z = .returned (.int .i64 (oneC e c)) ∧ Below w.heap.size w w' := by
  obtain ⟨a1, k1, rfl⟩ := ha.procs.slice
  obtain ⟨a2, k2, rfl⟩ := ha.insts.slice
  have hl2 := hs.insts.1
  obtain ⟨w0, e0⟩ : ∃ w0, w0 = (w.alloc (.cells #[.slice a1 e.procs.length k1, .slice a2 e.insts.length k2, .int .i64 e.now] 27)).alloc (.cells #[.int .i64 c.inst, .int .i64 c.step, .int .i64 c.user] 143) := ⟨_, rfl⟩
  have hb0 : Below w.heap.size w w0 := by rw [e0]; exact ((Below.refl _ w).alloc (Nat.le_refl _) _).alloc (by simp) _
  have HK0 : Hid (w0.heap[w.heap.size]? = some (.cells #[.slice a1 e.procs.length k1, .slice a2 e.insts.length k2, .int .i64 e.now] 27) ∧ w0.heap[w.heap.size + 1]? = some (.cells #[.int .i64 c.inst, .int .i64 c.step, .int .i64 c.user] 143)) := hid ⟨by rw [e0, Below.heap_alloc _ _ _ (by simp), new_blk], by rw [e0]; exact new_at (by simp) _⟩
  have HH := hid (implHasInst e _ _ c.inst B w0 (by omega) (ha.below hb0))
  have HA := hid (ha.below hb0)
  have HB0 := hid hb0
  have HS := hid hs
  have HKE := hid hk
  obtain ⟨zz, hzz⟩ : ∃ zz, oneC e c = zz := ⟨_, rfl⟩
  rw [hzz]
  have HZ := hid hzz
  clear ha hb0 hs hk hzz
  go_enter Tryz.func150, Tryz.ntmps150
  go_wp2_with fail
  rw [← e0]
  clear e0
  refine HH.out.mono ?_
  rintro z w1 ⟨rfl, hb1⟩
  have HB1 := hid (HB0.out.trans (hb1.mono HB0.out.size))
  have HK1 : Hid (w1.heap[w.heap.size]? = some (.cells #[.slice a1 e.procs.length k1, .slice a2 e.insts.length k2, .int .i64 e.now] 27) ∧ w1.heap[w.heap.size + 1]? = some (.cells #[.int .i64 c.inst, .int .i64 c.step, .int .i64 c.user] 143)) := hid ⟨(hb1.block _ (blk_lt HK0.out.1)).trans HK0.out.1, (hb1.block _ (blk_lt HK0.out.2)).trans HK0.out.2⟩
  have HA1 := hid (HA.out.below hb1)
  clear hb1 HK0 HA HH HB0
  cases hx : hasI e c.inst
  · have HE : Hid (zz = 3) := hid (HZ.out.symm.trans (one_range (by rw [hx, Bool.false_and])))
    go_wp2
    go_ret
    exact ⟨by rw [HE.out]; rfl, HB1.out⟩
  have m2 := blk_cell HK1.out.2 2
  replace m2 : w1.cell? ⟨w.heap.size + 1, 2, none⟩ = some (.int .i64 c.user) := m2
  have ml := blk_lt HK1.out.2
  go_wp2_with fail
  refine (implIsUser c.user _).mono ?_
  rintro z w2 ⟨rfl, hw2⟩
  replace hw2 := hw2.symm
  subst hw2
  clear m2 ml
  cases hu : isU c.user
  · have HE : Hid (zz = 3) := hid (HZ.out.symm.trans (one_range (by rw [hx, hu]; rfl)))
    clear hx hu
    go_wp2
    go_ret
    exact ⟨by rw [HE.out]; rfl, HB1.out⟩
  have hxu : (hasI e c.inst && isU c.user) = true := by rw [hx, hu]; rfl
  obtain ⟨i0, i1, i2⟩ := hasI_in hx
  have HO := hid (fun w' (hb : Below w1.heap.size w1 w') => implIsOpen e _ _ c.inst.toNat c.step B w' HS.out (HA1.out.below hb) i1 HKE.out)
  have ei : ((c.inst.toNat : Nat) : Int) = c.inst := Int.toNat_of_nonneg i0
  rw [ei] at HO
  clear hx hu ei i0 i1 i2
  cases ho : openT e c.inst c.step
  · have HE : Hid (zz = 4) := hid (HZ.out.symm.trans (one_none hxu ho))
    rw [ho] at HO
    clear ho hxu HZ
    have HKd : Hid (w1.drew.heap[w.heap.size]? = some (.cells #[.slice a1 e.procs.length k1, .slice a2 e.insts.length k2, .int .i64 e.now] 27) ∧ w1.drew.heap[w.heap.size + 1]? = some (.cells #[.int .i64 c.inst, .int .i64 c.step, .int .i64 c.user] 143)) := hid HK1.out
    have hBd : Below w1.heap.size w1 w1.drew := (Below.refl _ w1).drew
    go_wp2
    refine wp_region_held_drew (S := fun wx => wx.heap[w.heap.size]? = some (.cells #[.slice a1 e.procs.length k1, .slice a2 e.insts.length k2, .int .i64 e.now] 27) ∧ wx.heap[w.heap.size + 1]? = some (.cells #[.int .i64 c.inst, .int .i64 c.step, .int .i64 c.user] 143)) (by kernel_rfl) HKd.out (fun hHeld => ?_)
    refine wpAnyH_take (i := 0) (v := .agg #[.int .i64 c.inst, .int .i64 c.step, .int .i64 c.user]) rfl (by kernel_rfl) (by kernel_rfl) (by kernel_rfl) (fun _ _ _ h => h) (Or.inl ⟨by kernel_rfl, by intro w hSw; (try dsimp only at hSw); obtain ⟨h1, h2⟩ := hSw; have m0 := Ch.blk_cell h2 0; have m1 := Ch.blk_cell h2 1; have m2 := Ch.blk_cell h2 2; clear h1 h2; go_simp⟩) (by assumption) ?_
    simp only [Act.put, List.setIfInBounds_toArray, List.set_cons_zero, List.set_cons_succ]
    refine wpAnyH_take (i := 2) (v := .agg #[.slice a1 e.procs.length k1, .slice a2 e.insts.length k2, .int .i64 e.now]) rfl (by kernel_rfl) (by kernel_rfl) (by kernel_rfl) (fun _ _ _ h => h) (Or.inl ⟨by kernel_rfl, by intro w hSw; (try dsimp only at hSw); obtain ⟨h1, h2⟩ := hSw; have m0 := Ch.blk_cell h1 0; have m1 := Ch.blk_cell h1 1; have m2 := Ch.blk_cell h1 2; clear h1 h2; go_simp⟩) (by assumption) ?_
    simp only [Act.put, List.setIfInBounds_toArray, List.set_cons_zero, List.set_cons_succ]
    refine wpAnyH_ready (rs := [1]) (by kernel_rfl) (by simp) ?_
    refine AllReadyH.cons rfl (fun K hK => ?_) AllReadyH.nil
    go_simp
    go_at_call 151
    refine (implPlace c.inst c.step c.user _).mono ?_
    rintro z w3 ⟨rfl, hb3⟩
    have hb3 : Below w1.heap.size w1 w3 := hBd.trans (hb3.mono hBd.size)
    have HK3 : Hid (w3.heap[w.heap.size]? = some (.cells #[.slice a1 e.procs.length k1, .slice a2 e.insts.length k2, .int .i64 e.now] 27) ∧ w3.heap[w.heap.size + 1]? = some (.cells #[.int .i64 c.inst, .int .i64 c.step, .int .i64 c.user] 143)) := hid ⟨(hb3.block _ (blk_lt HK1.out.1)).trans HK1.out.1, (hb3.block _ (blk_lt HK1.out.2)).trans HK1.out.2⟩
    have HB3 := hid hb3
    clear hb3
    go_wp2_with fail
    refine hK.out _ _ HK3.out (fun hHeld => ?_)
    clear hK K
    try simp only [Act.put, List.setIfInBounds_toArray, List.set_cons_zero, List.set_cons_succ]
    refine wpAnyH_ready (rs := [3]) (by kernel_rfl) (by simp) ?_
    refine AllReadyH.cons rfl (fun K hK => ?_) AllReadyH.nil
    go_simp
    go_at_call 133
    refine (HO.out w3 HB3.out).mono ?_
    rintro z w4 ⟨rfl, hb4⟩
    have HK4 : Hid (w4.heap[w.heap.size]? = some (.cells #[.slice a1 e.procs.length k1, .slice a2 e.insts.length k2, .int .i64 e.now] 27) ∧ w4.heap[w.heap.size + 1]? = some (.cells #[.int .i64 c.inst, .int .i64 c.step, .int .i64 c.user] 143)) := hid ⟨(hb4.block _ (blk_lt HK3.out.1)).trans HK3.out.1, (hb4.block _ (blk_lt HK3.out.2)).trans HK3.out.2⟩
    have HB4 := hid (HB3.out.trans (hb4.mono HB3.out.size))
    clear hb4
    go_wp2_with fail
    refine hK.out _ _ HK4.out (fun hHeld => ?_)
    clear hK K
    try simp only [Act.put, List.setIfInBounds_toArray, List.set_cons_zero, List.set_cons_succ]
    refine wpAnyH_take (i := 4) (v := .bool true) rfl (by kernel_rfl) (by kernel_rfl) (by kernel_rfl) (fun _ _ _ h => h) (Or.inl ⟨by kernel_rfl, by intro w hSw; (try dsimp only at hSw); go_simp⟩) (by assumption) ?_
    simp only [Act.put, List.setIfInBounds_toArray, List.set_cons_zero, List.set_cons_succ]
    refine wpAnyH_done (by kernel_rfl) ?_ _
    clear hHeld HK1 HK3 HK4 HKd
    go_wp2
    go_ret
    exact ⟨by rw [HE.out]; rfl, HB1.out.trans (HB4.out.mono HB1.out.size)⟩
  · have HE : Hid (zz = 0) := hid (HZ.out.symm.trans (one_ok hxu ho))
    rw [ho] at HO
    clear ho hxu HZ
    have HKd : Hid (w1.drew.heap[w.heap.size]? = some (.cells #[.slice a1 e.procs.length k1, .slice a2 e.insts.length k2, .int .i64 e.now] 27) ∧ w1.drew.heap[w.heap.size + 1]? = some (.cells #[.int .i64 c.inst, .int .i64 c.step, .int .i64 c.user] 143)) := hid HK1.out
    have hBd : Below w1.heap.size w1 w1.drew := (Below.refl _ w1).drew
    go_wp2
    refine wp_region_held_drew (S := fun wx => wx.heap[w.heap.size]? = some (.cells #[.slice a1 e.procs.length k1, .slice a2 e.insts.length k2, .int .i64 e.now] 27) ∧ wx.heap[w.heap.size + 1]? = some (.cells #[.int .i64 c.inst, .int .i64 c.step, .int .i64 c.user] 143)) (by kernel_rfl) HKd.out (fun hHeld => ?_)
    refine wpAnyH_take (i := 0) (v := .agg #[.int .i64 c.inst, .int .i64 c.step, .int .i64 c.user]) rfl (by kernel_rfl) (by kernel_rfl) (by kernel_rfl) (fun _ _ _ h => h) (Or.inl ⟨by kernel_rfl, by intro w hSw; (try dsimp only at hSw); obtain ⟨h1, h2⟩ := hSw; have m0 := Ch.blk_cell h2 0; have m1 := Ch.blk_cell h2 1; have m2 := Ch.blk_cell h2 2; clear h1 h2; go_simp⟩) (by assumption) ?_
    simp only [Act.put, List.setIfInBounds_toArray, List.set_cons_zero, List.set_cons_succ]
    refine wpAnyH_take (i := 2) (v := .agg #[.slice a1 e.procs.length k1, .slice a2 e.insts.length k2, .int .i64 e.now]) rfl (by kernel_rfl) (by kernel_rfl) (by kernel_rfl) (fun _ _ _ h => h) (Or.inl ⟨by kernel_rfl, by intro w hSw; (try dsimp only at hSw); obtain ⟨h1, h2⟩ := hSw; have m0 := Ch.blk_cell h1 0; have m1 := Ch.blk_cell h1 1; have m2 := Ch.blk_cell h1 2; clear h1 h2; go_simp⟩) (by assumption) ?_
    simp only [Act.put, List.setIfInBounds_toArray, List.set_cons_zero, List.set_cons_succ]
    refine wpAnyH_ready (rs := [1]) (by kernel_rfl) (by simp) ?_
    refine AllReadyH.cons rfl (fun K hK => ?_) AllReadyH.nil
    go_simp
    go_at_call 151
    refine (implPlace c.inst c.step c.user _).mono ?_
    rintro z w3 ⟨rfl, hb3⟩
    have hb3 : Below w1.heap.size w1 w3 := hBd.trans (hb3.mono hBd.size)
    have HK3 : Hid (w3.heap[w.heap.size]? = some (.cells #[.slice a1 e.procs.length k1, .slice a2 e.insts.length k2, .int .i64 e.now] 27) ∧ w3.heap[w.heap.size + 1]? = some (.cells #[.int .i64 c.inst, .int .i64 c.step, .int .i64 c.user] 143)) := hid ⟨(hb3.block _ (blk_lt HK1.out.1)).trans HK1.out.1, (hb3.block _ (blk_lt HK1.out.2)).trans HK1.out.2⟩
    have HB3 := hid hb3
    clear hb3
    go_wp2_with fail
    refine hK.out _ _ HK3.out (fun hHeld => ?_)
    clear hK K
    try simp only [Act.put, List.setIfInBounds_toArray, List.set_cons_zero, List.set_cons_succ]
    refine wpAnyH_ready (rs := [3]) (by kernel_rfl) (by simp) ?_
    refine AllReadyH.cons rfl (fun K hK => ?_) AllReadyH.nil
    go_simp
    go_at_call 133
    refine (HO.out w3 HB3.out).mono ?_
    rintro z w4 ⟨rfl, hb4⟩
    have HK4 : Hid (w4.heap[w.heap.size]? = some (.cells #[.slice a1 e.procs.length k1, .slice a2 e.insts.length k2, .int .i64 e.now] 27) ∧ w4.heap[w.heap.size + 1]? = some (.cells #[.int .i64 c.inst, .int .i64 c.step, .int .i64 c.user] 143)) := hid ⟨(hb4.block _ (blk_lt HK3.out.1)).trans HK3.out.1, (hb4.block _ (blk_lt HK3.out.2)).trans HK3.out.2⟩
    have HB4 := hid (HB3.out.trans (hb4.mono HB3.out.size))
    clear hb4
    go_wp2_with fail
    refine hK.out _ _ HK4.out (fun hHeld => ?_)
    clear hK K
    try simp only [Act.put, List.setIfInBounds_toArray, List.set_cons_zero, List.set_cons_succ]
    refine wpAnyH_take (i := 4) (v := .bool false) rfl (by kernel_rfl) (by kernel_rfl) (by kernel_rfl) (fun _ _ _ h => h) (Or.inl ⟨by kernel_rfl, by intro w hSw; (try dsimp only at hSw); go_simp⟩) (by assumption) ?_
    simp only [Act.put, List.setIfInBounds_toArray, List.set_cons_zero, List.set_cons_succ]
    refine wpAnyH_done (by kernel_rfl) ?_ _
    clear hHeld HK1 HK3 HK4 HKd
    go_wp2
    go_ret
    exact ⟨by rw [HE.out]; rfl, HB1.out.trans (HB4.out.mono HB1.out.size)⟩
end Dk
end Go.Proofs.YtccklgopcjilcaaGreatDoor
/- The program's order of places of tasks: cmp.Or. -/
namespace Go.Proofs.YtccklgopcjilcaaGreatDoor
open Go.RowKit
set_option linter.unusedVariables false
namespace Gr
open Ex (hid)
set_option maxRecDepth 100000 in
set_option maxHeartbeats 1000000 in
theorem implOr (a b : Int) (B : Nat) (w : World) (h0 : w.cell? ⟨B, 0, none⟩ = some (.int .i64 a)) (h1 : w.cell? ⟨B, 1, none⟩ = some (.int .i64 b)) : Calls Tryz.prog 175 #[.slice (some ⟨B, 0, none⟩) 2 2] w fun e w' => e = .returned (.int .i64 (if a ≠ 0 then a else b)) ∧ w' = w := by
  obtain ⟨r, hr⟩ : ∃ r, r = if a ≠ 0 then a else b := ⟨_, rfl⟩
  rw [← hr]
  have HR := hid hr
  clear hr
  go_enter Tryz.func175, Tryz.ntmps175
  go_wp2
  go_loop [5, 8] (fun x i => ∃ k : Nat, i = .int .i64 k ∧ k ≤ 2 ∧ (∃ y, x = y) ∧ Hid (0 < k → a = 0) ∧ Hid (1 < k → b = 0)) (fun _ i => 2 - (intOf i).toNat)
  case atStart => exact ⟨0, rfl, by omega, ⟨_, rfl⟩, hid (fun h => by omega), hid (fun h => by omega)⟩
  case round =>
    obtain ⟨k, rfl, hk, ⟨y, rfl⟩, HA, HB⟩ := hrel
    obtain rfl | rfl | rfl : k = 0 ∨ k = 1 ∨ k = 2 := by omega
    · by_cases ha : a = 0
      · have b1 : (a != 0) = false := by simp [ha]
        have HA0 := hid ha
        clear ha
        go_wp2
        exact ⟨⟨1, by simp, by omega, ⟨_, rfl⟩, hid (fun _ => HA0.out), hid (fun h => by omega)⟩, by simp [intOf]⟩
      · have b1 : (a != 0) = true := by simp [ha]
        have HV : Hid (r = a) := hid (by rw [HR.out, if_pos ha])
        clear ha
        go_wp2
        go_ret
        exact ⟨by rw [HV.out]; rfl, rfl⟩
    · have ha := HA.out (by omega)
      have HV : Hid (r = b) := hid (by rw [HR.out, if_neg (by simp [ha])])
      by_cases hb : b = 0
      · have b1 : (b != 0) = false := by simp [hb]
        have HB0 := hid hb
        have HA0 := hid ha
        clear ha hb
        go_wp2
        exact ⟨⟨2, by simp, by omega, ⟨_, rfl⟩, hid (fun _ => HA0.out), hid (fun h => HB0.out)⟩, by simp [intOf]⟩
      · have b1 : (b != 0) = true := by simp [hb]
        clear ha hb
        go_wp2
        go_ret
        exact ⟨by rw [HV.out]; rfl, rfl⟩
    · have HV : Hid (r = 0) := hid (by rw [HR.out, HA.out (by omega), HB.out (by omega)]; rfl)
      go_wp2
      go_ret
      exact ⟨by rw [HV.out]; rfl, rfl⟩
end Gr
end Go.Proofs.YtccklgopcjilcaaGreatDoor
/- The program's order of places of tasks: comparePlaces. -/
namespace Go.Proofs.YtccklgopcjilcaaGreatDoor
open Go.RowKit
set_option linter.unusedVariables false
namespace Gr
open Ex (hid)
structure Ends2 (w : World) (b c : Nat) (x y : Cl.ClD) : Prop where
  x0 : w.cell? ⟨b, 0, none⟩ = some (.int .i64 x.inst)
  x1 : w.cell? ⟨b, 1, none⟩ = some (.int .i64 x.step)
  y0 : w.cell? ⟨c, 0, none⟩ = some (.int .i64 y.inst)
  y1 : w.cell? ⟨c, 1, none⟩ = some (.int .i64 y.step)
set_option maxRecDepth 100000 in
set_option maxHeartbeats 4000000 in
theorem implComparePlaces (x y : Cl.ClD) (w : World) : Calls Tryz.prog 137 #[.agg #[.int .i64 x.inst, .int .i64 x.step, .int .i64 x.user], .agg #[.int .i64 y.inst, .int .i64 y.step, .int .i64 y.user]] w fun e w' => e = .returned (.int .i64 (cmpE (x.inst, x.step) (y.inst, y.step))) ∧ w' = (((w.alloc (.cells #[.int .i64 x.inst, .int .i64 x.step, .int .i64 x.user] 143)).alloc (.cells #[.int .i64 y.inst, .int .i64 y.step, .int .i64 y.user] 143)).alloc (.cells #[.int .i64 (cmpI x.inst y.inst), .int .i64 (cmpI x.step y.step)] 3)).drew := by
  have h1 : ((w.alloc (.cells #[.int .i64 x.inst, .int .i64 x.step, .int .i64 x.user] 143)).alloc (.cells #[.int .i64 y.inst, .int .i64 y.step, .int .i64 y.user] 143)).heap[w.heap.size]? = some (.cells #[.int .i64 x.inst, .int .i64 x.step, .int .i64 x.user] 143 (0, 0)) := by
    rw [Below.heap_alloc _ _ _ (by simp)]
    exact heap_alloc_new w _
  have h2 : ((w.alloc (.cells #[.int .i64 x.inst, .int .i64 x.step, .int .i64 x.user] 143)).alloc (.cells #[.int .i64 y.inst, .int .i64 y.step, .int .i64 y.user] 143)).heap[w.heap.size + 1]? = some (.cells #[.int .i64 y.inst, .int .i64 y.step, .int .i64 y.user] 143 (0, 0)) := by
    have := heap_alloc_new (w.alloc (.cells #[.int .i64 x.inst, .int .i64 x.step, .int .i64 x.user] 143)) (.cells #[.int .i64 y.inst, .int .i64 y.step, .int .i64 y.user] 143)
    rw [World.size_alloc] at this
    exact this
  have hz : ((w.alloc (.cells #[.int .i64 x.inst, .int .i64 x.step, .int .i64 x.user] 143)).alloc (.cells #[.int .i64 y.inst, .int .i64 y.step, .int .i64 y.user] 143)).heap.size = w.heap.size + 2 := by simp
  have H1 := hid h1
  have H2 := hid h2
  have HZ := hid hz
  obtain ⟨r, hr⟩ : ∃ r, r = if cmpI x.inst y.inst ≠ 0 then cmpI x.inst y.inst else cmpI x.step y.step := ⟨_, rfl⟩
  have HV : Hid (cmpE (x.inst, x.step) (y.inst, y.step) = r) := hid (by rw [hr]; rfl)
  have HR := hid hr
  clear hr
  clear h1 h2 hz
  go_enter Tryz.func137, Tryz.ntmps137
  go_wp2
  generalize hw0 : (w.alloc (.cells #[.int .i64 x.inst, .int .i64 x.step, .int .i64 x.user] 143)).alloc (.cells #[.int .i64 y.inst, .int .i64 y.step, .int .i64 y.user] 143) = w0 at *
  have HW := hid hw0
  clear hw0
  have hst0 : Ends2 w0 w.heap.size (w.heap.size + 1) x y := ⟨by simp [World.cell?, H1.out], by simp [World.cell?, H1.out], by simp [World.cell?, H2.out], by simp [World.cell?, H2.out]⟩
  have hst : Ends2 w0.drew w.heap.size (w.heap.size + 1) x y := ⟨hst0.x0, hst0.x1, hst0.y0, hst0.y1⟩
  have hn3 := heap_alloc_new w0 (.cells #[.int .i64 (cmpI x.inst y.inst), .int .i64 (cmpI x.step y.step)] 3)
  have hk : ∀ b, b < w.heap.size + 2 → (w0.alloc (.cells #[.int .i64 (cmpI x.inst y.inst), .int .i64 (cmpI x.step y.step)] 3)).heap[b]? = w0.heap[b]? := fun b hb => Below.heap_alloc _ _ _ (by have := HZ.out; omega)
  have hst2 : Ends2 (w0.alloc (.cells #[.int .i64 (cmpI x.inst y.inst), .int .i64 (cmpI x.step y.step)] 3)).drew w.heap.size (w.heap.size + 1) x y := by
    have e1 := (hk w.heap.size (by omega)).trans H1.out
    have e2 := (hk (w.heap.size + 1) (by omega)).trans H2.out
    exact ⟨by simp [World.cell?, World.drew, e1], by simp [World.cell?, World.drew, e1], by simp [World.cell?, World.drew, e2], by simp [World.cell?, World.drew, e2]⟩
  have ho0 : (w0.alloc (.cells #[.int .i64 (cmpI x.inst y.inst), .int .i64 (cmpI x.step y.step)] 3)).drew.cell? ⟨w0.heap.size, 0, none⟩ = some (.int .i64 (cmpI x.inst y.inst)) := by simp only [World.cell?, World.drew]; rw [hn3]; rfl
  have ho1 : (w0.alloc (.cells #[.int .i64 (cmpI x.inst y.inst), .int .i64 (cmpI x.step y.step)] 3)).drew.cell? ⟨w0.heap.size, 1, none⟩ = some (.int .i64 (cmpI x.step y.step)) := by simp only [World.cell?, World.drew]; rw [hn3]; rfl
  have HO := hid (implOr (cmpI x.inst y.inst) (cmpI x.step y.step) w0.heap.size _ ho0 ho1)
  rw [← HR.out] at HO
  clear hn3 hk hst0 HR
  refine wp_region_held_drew (S := fun wx => Ends2 wx (w.heap.size) (w.heap.size + 1) x y) (by kernel_rfl) hst (fun hHeld => ?_)
  refine wpAnyH_take (i := 0) (oi := { dst := some 5, op := Go.Op.fieldAddr 143 (Go.Operand.tmp 2) 0, type := 0, pos := "l12_desk.go:104", after := #[], guard := none }) (v := .pointer (some ⟨w.heap.size, 0, none⟩)) rfl (by kernel_rfl) (by kernel_rfl) (by kernel_rfl) (fun _ _ _ h => h) (Or.inl ⟨by rfl, by intro w hSw; (try dsimp only at hSw); obtain ⟨s0, s1, s2, s3⟩ := hSw; go_simp⟩) (by assumption) ?_
  simp only [Act.put, List.setIfInBounds_toArray, List.set_cons_zero, List.set_cons_succ]
  refine wpAnyH_take (i := 1) (oi := { dst := some 6, op := Go.Op.load 2 (Go.Operand.tmp 5), type := 2, pos := "l12_desk.go:104", after := #[{ on := 0, ground := Go.Ground.data }], guard := none }) (v := .int .i64 x.inst) rfl (by kernel_rfl) (by kernel_rfl) (by kernel_rfl) (fun _ _ _ h => h) (Or.inl ⟨by rfl, by intro w hSw; (try dsimp only at hSw); obtain ⟨s0, s1, s2, s3⟩ := hSw; go_simp⟩) (by assumption) ?_
  simp only [Act.put, List.setIfInBounds_toArray, List.set_cons_zero, List.set_cons_succ]
  refine wpAnyH_take (i := 2) (oi := { dst := some 7, op := Go.Op.fieldAddr 143 (Go.Operand.tmp 3) 0, type := 0, pos := "l12_desk.go:104", after := #[], guard := none }) (v := .pointer (some ⟨w.heap.size + 1, 0, none⟩)) rfl (by kernel_rfl) (by kernel_rfl) (by kernel_rfl) (fun _ _ _ h => h) (Or.inl ⟨by rfl, by intro w hSw; (try dsimp only at hSw); obtain ⟨s0, s1, s2, s3⟩ := hSw; go_simp⟩) (by assumption) ?_
  simp only [Act.put, List.setIfInBounds_toArray, List.set_cons_zero, List.set_cons_succ]
  refine wpAnyH_take (i := 3) (oi := { dst := some 8, op := Go.Op.load 2 (Go.Operand.tmp 7), type := 2, pos := "l12_desk.go:104", after := #[{ on := 2, ground := Go.Ground.data }], guard := none }) (v := .int .i64 y.inst) rfl (by kernel_rfl) (by kernel_rfl) (by kernel_rfl) (fun _ _ _ h => h) (Or.inl ⟨by rfl, by intro w hSw; (try dsimp only at hSw); obtain ⟨s0, s1, s2, s3⟩ := hSw; go_simp⟩) (by assumption) ?_
  simp only [Act.put, List.setIfInBounds_toArray, List.set_cons_zero, List.set_cons_succ]
  refine wpAnyH_take (i := 5) (oi := { dst := some 10, op := Go.Op.fieldAddr 143 (Go.Operand.tmp 2) 1, type := 0, pos := "l12_desk.go:104", after := #[], guard := none }) (v := .pointer (some ⟨w.heap.size, 1, none⟩)) rfl (by kernel_rfl) (by kernel_rfl) (by kernel_rfl) (fun _ _ _ h => h) (Or.inl ⟨by rfl, by intro w hSw; (try dsimp only at hSw); obtain ⟨s0, s1, s2, s3⟩ := hSw; go_simp⟩) (by assumption) ?_
  simp only [Act.put, List.setIfInBounds_toArray, List.set_cons_zero, List.set_cons_succ]
  refine wpAnyH_take (i := 6) (oi := { dst := some 11, op := Go.Op.load 2 (Go.Operand.tmp 10), type := 2, pos := "l12_desk.go:104", after := #[{ on := 5, ground := Go.Ground.data }], guard := none }) (v := .int .i64 x.step) rfl (by kernel_rfl) (by kernel_rfl) (by kernel_rfl) (fun _ _ _ h => h) (Or.inl ⟨by rfl, by intro w hSw; (try dsimp only at hSw); obtain ⟨s0, s1, s2, s3⟩ := hSw; go_simp⟩) (by assumption) ?_
  simp only [Act.put, List.setIfInBounds_toArray, List.set_cons_zero, List.set_cons_succ]
  refine wpAnyH_take (i := 7) (oi := { dst := some 12, op := Go.Op.fieldAddr 143 (Go.Operand.tmp 3) 1, type := 0, pos := "l12_desk.go:104", after := #[], guard := none }) (v := .pointer (some ⟨w.heap.size + 1, 1, none⟩)) rfl (by kernel_rfl) (by kernel_rfl) (by kernel_rfl) (fun _ _ _ h => h) (Or.inl ⟨by rfl, by intro w hSw; (try dsimp only at hSw); obtain ⟨s0, s1, s2, s3⟩ := hSw; go_simp⟩) (by assumption) ?_
  simp only [Act.put, List.setIfInBounds_toArray, List.set_cons_zero, List.set_cons_succ]
  refine wpAnyH_take (i := 8) (oi := { dst := some 13, op := Go.Op.load 2 (Go.Operand.tmp 12), type := 2, pos := "l12_desk.go:104", after := #[{ on := 7, ground := Go.Ground.data }], guard := none }) (v := .int .i64 y.step) rfl (by kernel_rfl) (by kernel_rfl) (by kernel_rfl) (fun _ _ _ h => h) (Or.inl ⟨by rfl, by intro w hSw; (try dsimp only at hSw); obtain ⟨s0, s1, s2, s3⟩ := hSw; go_simp⟩) (by assumption) ?_
  simp only [Act.put, List.setIfInBounds_toArray, List.set_cons_zero, List.set_cons_succ]
  refine wpAnyH_ready (rs := [4]) (by kernel_rfl) (by simp) ?_
  refine (AllReadyH.cons (o := { dst := some 9, op := Go.Op.call { callee := Go.Callee.value (Go.Operand.func 176), args := #[Go.Operand.tmp 6, Go.Operand.tmp 8], argTypes := #[2, 2] }, type := 3, pos := "l12_desk.go:104", after := #[{ on := 1, ground := Go.Ground.data }, { on := 3, ground := Go.Ground.data }], guard := none }) rfl (fun K hK => ?_) AllReadyH.nil)
  go_simp
  go_at_call 176
  refine (implCompare x.inst y.inst _).mono ?_
  rintro e w' ⟨rfl, rfl⟩
  go_wp2_with fail
  refine hK.out _ _ hst (fun hHeld => ?_)
  clear hK K
  try simp only [Act.put, List.setIfInBounds_toArray, List.set_cons_zero, List.set_cons_succ]
  refine wpAnyH_ready (rs := [9]) (by kernel_rfl) (by simp) ?_
  refine (AllReadyH.cons (o := { dst := some 14, op := Go.Op.call { callee := Go.Callee.value (Go.Operand.func 176), args := #[Go.Operand.tmp 11, Go.Operand.tmp 13], argTypes := #[2, 2] }, type := 3, pos := "l12_desk.go:104", after := #[{ on := 6, ground := Go.Ground.data }, { on := 8, ground := Go.Ground.data }, { on := 4, ground := Go.Ground.chain }], guard := none }) rfl (fun K hK => ?_) AllReadyH.nil)
  go_simp
  go_at_call 176
  refine (implCompare x.step y.step _).mono ?_
  rintro e w' ⟨rfl, rfl⟩
  go_wp2_with fail
  refine hK.out _ _ hst (fun hHeld => ?_)
  clear hK K
  try simp only [Act.put, List.setIfInBounds_toArray, List.set_cons_zero, List.set_cons_succ]
  refine wpAnyH_ready (rs := [10]) (by kernel_rfl) (by simp) ?_
  refine (AllReadyH.cons (o := { dst := some 15, op := Go.Op.buildSlice 281 2 #[(0, Go.Operand.tmp 9), (1, Go.Operand.tmp 14)], type := 281, pos := "l12_desk.go:104", after := #[{ on := 4, ground := Go.Ground.data }, { on := 9, ground := Go.Ground.data }], guard := none }) rfl (fun K hK => ?_) AllReadyH.nil)
  go_simp
  refine hK.out _ _ hst2 (fun hHeld => ?_)
  clear hK K
  try simp only [Act.put, List.setIfInBounds_toArray, List.set_cons_zero, List.set_cons_succ]
  refine wpAnyH_ready (rs := [11]) (by kernel_rfl) (by simp) ?_
  refine (AllReadyH.cons (o := { dst := some 16, op := Go.Op.call { callee := Go.Callee.value (Go.Operand.func 175), args := #[Go.Operand.tmp 15], argTypes := #[281] }, type := 3, pos := "l12_desk.go:104", after := #[{ on := 10, ground := Go.Ground.data }, { on := 9, ground := Go.Ground.chain }], guard := none }) rfl (fun K hK => ?_) AllReadyH.nil)
  go_simp
  go_at_call 175
  refine HO.out.mono ?_
  rintro e w' ⟨rfl, rfl⟩
  go_wp2_with fail
  refine hK.out _ _ hst2 (fun hHeld => ?_)
  clear hK K
  try simp only [Act.put, List.setIfInBounds_toArray, List.set_cons_zero, List.set_cons_succ]
  refine wpAnyH_take (i := 12) (oi := { dst := some 4, op := Go.Op.assign (Go.Operand.tmp 16), type := 3, pos := "l12_desk.go:104", after := #[{ on := 11, ground := Go.Ground.data }, { on := 11, ground := Go.Ground.chain }, { on := 0, ground := Go.Ground.phase }, { on := 1, ground := Go.Ground.phase }, { on := 2, ground := Go.Ground.phase }, { on := 3, ground := Go.Ground.phase }, { on := 4, ground := Go.Ground.phase }, { on := 5, ground := Go.Ground.phase }, { on := 6, ground := Go.Ground.phase }, { on := 7, ground := Go.Ground.phase }, { on := 8, ground := Go.Ground.phase }, { on := 9, ground := Go.Ground.phase }, { on := 10, ground := Go.Ground.phase }, { on := 11, ground := Go.Ground.phase }], guard := none }) (v := .int .i64 r) rfl (by kernel_rfl) (by kernel_rfl) (by kernel_rfl) (fun _ _ _ h => h) (Or.inl ⟨by rfl, by intro w hSw; (try dsimp only at hSw); obtain ⟨s0, s1, s2, s3⟩ := hSw; go_simp⟩) (by assumption) ?_
  simp only [Act.put, List.setIfInBounds_toArray, List.set_cons_zero, List.set_cons_succ]
  refine wpAnyH_done (by kernel_rfl) ?_ _
  clear hst hst2 ho0 ho1 hHeld
  go_wp2
  go_ret
  exact ⟨by rw [HV.out]; rfl, by rw [HW.out]⟩
end Gr
end Go.Proofs.YtccklgopcjilcaaGreatDoor
