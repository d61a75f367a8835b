/- Laid together: KuA, KfM. -/
import Derived.Test.YtpgbjpfpgbjbeaaGreatDoorJCh24
import Derived.Test.YtpgbjpfpgbjbeaaGreatDoorJCh26
import Derived.Test.YtpgbjpfpgbjbeaaGreatDoorJCh23
import Derived.Deep.RegionHeld3
import Derived.Test.YtpgbjpfpgbjbeaaGreatDoorJCh14
/- A step and all below it, by the program. -/
namespace Go.Proofs.YtpgbjpfpgbjbeaaGreatDoor
open Go.RowKit Go.Deep
set_option linter.unusedVariables false
set_option linter.unusedSimpArgs false
namespace Ku
open Ex (inR evalCode evalVal vFault hid)
open St (StepD)
open Pf
open Kc (endOf)
set_option maxRecDepth 100000 in
set_option maxHeartbeats 1000000 in
theorem hasStep (a : Option Addr) (n c : Nat) (x : Int) (w : World) (hn : n ≤ 1048576) : Calls Tryz.prog 52 #[.slice a n c, .int .i64 x] w fun e w' => e = .returned (.bool (decide (0 ≤ x) && decide (x < (n : Int)))) ∧ w' = w := by
  by_cases h1 : (0 : Int) ≤ x
  · by_cases h2 : x < (n : Int)
    · have HV : Hid ((decide (0 ≤ x) && decide (x < (n : Int))) = true) := hid (by simp [h1, h2])
      generalize (decide (0 ≤ x) && decide (x < (n : Int))) = bb at *
      go_enter Tryz.func52, Tryz.ntmps52
      go_wp2
      go_ret
      exact ⟨by rw [HV.out]; rfl, rfl⟩
    · have HV : Hid ((decide (0 ≤ x) && decide (x < (n : Int))) = false) := hid (by simp [h2])
      generalize (decide (0 ≤ x) && decide (x < (n : Int))) = bb at *
      go_enter Tryz.func52, Tryz.ntmps52
      go_wp2
      go_ret
      exact ⟨by rw [HV.out]; rfl, rfl⟩
  · have HV : Hid ((decide (0 ≤ x) && decide (x < (n : Int))) = false) := hid (by simp [h1])
    generalize (decide (0 ≤ x) && decide (x < (n : Int))) = bb at *
    go_enter Tryz.func52, Tryz.ntmps52
    go_wp2
    go_ret
    exact ⟨by rw [HV.out]; rfl, rfl⟩
set_option maxRecDepth 100000 in
set_option maxHeartbeats 16000000 in
theorem withAllBelow (ss : List StepD) (gu cu k : Nat) (w : World) (hl : ss.length ≤ 24) (hk : k < ss.length) (hP : PAt w ss (.slice (some ⟨gu, 0, none⟩) ss.length cu)) (hcap : capOk (.slice (some ⟨gu, 0, none⟩) ss.length cu)) :
    Calls Tryz.prog 120 #[.slice (some ⟨gu, 0, none⟩) ss.length cu, .int .i64 (k : Int)] w fun e w' => e = .returned (.slice (some ⟨gu, k * 9, none⟩) (endOf ss k - k) (cu - k)) ∧ Below w.heap.size w w' := by
  have hc := hcap _ _ _ rfl
  unfold maxLen at hc
  have HP := hid hP
  obtain ⟨_, _, e0, hgu, hcs⟩ := hP
  cases e0
  obtain ⟨kv, vc, ve, d0, d1, d2, _, _, _, _, _, _, hpc⟩ := hcs k hk
  obtain ⟨ak, ck, rfl⟩ := hpc.kids.slice
  have HK : Hid (w.cell? ⟨gu, k * 9, none⟩ = some (.int .i64 (k : Int)) ∧ w.cell? ⟨gu, k * 9 + 1, none⟩ = some (.int .i64 (dOf ss k : Int)) ∧ w.cell? ⟨gu, k * 9 + 2, none⟩ = some (.slice ak (kidsL ss k).length ck)) := hid ⟨d0, d1, d2⟩
  clear hcap hcs d0 d1 d2 hpc
  generalize (kidsL ss k).length = nk at *
  generalize hres : endOf ss k = en at *
  have HEN := hid hres
  clear hres
  go_enter Tryz.func120, Tryz.ntmps120
  go_wp2
  go_loopw [5] (fun x wr => ∃ j : Nat, x = .int .i64 j ∧ k < j ∧ j ≤ ss.length ∧ Hid (en = j + (uFrom ss k j).length) ∧ Hid (Below w.heap.size w wr)) (fun x _ => ss.length - (intOf x).toNat)
  case atStart => exact ⟨k + 1, by simp, by omega, by omega, hid (by rw [← HEN.out]; unfold endOf underN; rw [List.length_cons]; omega), hid (Below.refl _ _)⟩
  case round =>
    obtain ⟨j, rfl, hkj, hjl, HE, HB⟩ := hrel
    have HBd : Hid (Below w.heap.size w wr.drew) := hid HB.out.drew
    by_cases hlt : j < ss.length
    · have HHS : Hid (∀ w', Calls Tryz.prog 52 #[.slice (some ⟨gu, 0, none⟩) ss.length cu, .int .i64 (j : Int)] w' fun e w'' => e = .returned (.bool true) ∧ w'' = w') := hid (fun w' => by
        have := hasStep (some ⟨gu, 0, none⟩) ss.length cu (j : Int) w' (by omega)
        rwa [show (decide ((0 : Int) ≤ (j : Int)) && decide ((j : Int) < (ss.length : Int))) = true by simp; omega] at this)
      obtain ⟨_, _, e0, _, hcs⟩ := HP.out
      cases e0
      obtain ⟨kv, vc, ve, d0, d1, d2, _, _, _, _, _, _, hpc⟩ := hcs j hlt
      obtain ⟨aj, cj, rfl⟩ := hpc.kids.slice
      have HJ : Hid (w.cell? ⟨gu, j * 9, none⟩ = some (.int .i64 (j : Int)) ∧ w.cell? ⟨gu, j * 9 + 1, none⟩ = some (.int .i64 (dOf ss j : Int)) ∧ w.cell? ⟨gu, j * 9 + 2, none⟩ = some (.slice aj (kidsL ss j).length cj)) := hid ⟨d0, d1, d2⟩
      have HUS := hid (u_step (k := k) hlt)
      have HUE := hid (u_stop (k := k) hlt)
      have HIB := hid (fun w' => isBelow (j : Int) (k : Int) (dOf ss j) (dOf ss k) aj ak (kidsL ss j).length cj nk ck w')
      have q1 : (j : Int) < (ss.length : Int) := by omega
      have q2 : (k : Int) < (ss.length : Int) := by omega
      clear hcs d0 d1 d2 hpc
      generalize (kidsL ss j).length = nj at *
      generalize dOf ss j = dj at *
      generalize dOf ss k = dk at *
      have HCL : Hid (∀ wx, Below w.heap.size w wx → wx.cell? ⟨gu, k * 9, none⟩ = some (.int .i64 (k : Int)) ∧ wx.cell? ⟨gu, k * 9 + 1, none⟩ = some (.int .i64 (dk : Int)) ∧ wx.cell? ⟨gu, k * 9 + 2, none⟩ = some (.slice ak nk ck) ∧ wx.cell? ⟨gu, j * 9, none⟩ = some (.int .i64 (j : Int)) ∧ wx.cell? ⟨gu, j * 9 + 1, none⟩ = some (.int .i64 (dj : Int)) ∧ wx.cell? ⟨gu, j * 9 + 2, none⟩ = some (.slice aj nj cj)) := hid (fun wx hb => ⟨(hb.cell (p := ⟨gu, k * 9, none⟩) hgu).trans HK.out.1, (hb.cell (p := ⟨gu, k * 9 + 1, none⟩) hgu).trans HK.out.2.1, (hb.cell (p := ⟨gu, k * 9 + 2, none⟩) hgu).trans HK.out.2.2, (hb.cell (p := ⟨gu, j * 9, none⟩) hgu).trans HJ.out.1, (hb.cell (p := ⟨gu, j * 9 + 1, none⟩) hgu).trans HJ.out.2.1, (hb.cell (p := ⟨gu, j * 9 + 2, none⟩) hgu).trans HJ.out.2.2⟩)
      have HLD := hid (HCL.out _ HBd.out)
      by_cases hd : dk < dj
      · have HX : Hid (en = (j + 1) + (uFrom ss k (j + 1)).length) := hid (by rw [HE.out, HUS.out hd, List.length_cons]; omega)
        rw [show decide (dk < dj) = true by simp [hd]] at HIB
        clear hd HUS HUE HE
        go_wp2
        refine wp_region_held_drew (S := fun wx => wx.cell? ⟨gu, k * 9, none⟩ = some (.int .i64 (k : Int)) ∧ wx.cell? ⟨gu, k * 9 + 1, none⟩ = some (.int .i64 (dk : Int)) ∧ wx.cell? ⟨gu, k * 9 + 2, none⟩ = some (.slice ak nk ck) ∧ wx.cell? ⟨gu, j * 9, none⟩ = some (.int .i64 (j : Int)) ∧ wx.cell? ⟨gu, j * 9 + 1, none⟩ = some (.int .i64 (dj : Int)) ∧ wx.cell? ⟨gu, j * 9 + 2, none⟩ = some (.slice aj nj cj)) (by kernel_rfl) HLD.out (fun hHeld => ?_)
        refine wpAnyH_take (i := 0) (v := .slice (some ⟨gu, 0, none⟩) ss.length cu) rfl (by kernel_rfl) (by kernel_rfl) (by kernel_rfl) (fun _ _ _ h => h) (Or.inl ⟨by kernel_rfl, by intro w hSw; (try dsimp only at hSw); go_simp⟩) (by assumption) ?_
        simp only [Act.put, List.setIfInBounds_toArray, List.set_cons_zero, List.set_cons_succ]
        refine wpAnyH_take (i := 1) (v := .int .i64 (j : Int)) rfl (by kernel_rfl) (by kernel_rfl) (by kernel_rfl) (fun _ _ _ h => h) (Or.inl ⟨by kernel_rfl, by intro w hSw; (try dsimp only at hSw); go_simp⟩) (by assumption) ?_
        simp only [Act.put, List.setIfInBounds_toArray, List.set_cons_zero, List.set_cons_succ]
        refine wpAnyH_ready (rs := [2]) (by kernel_rfl) (by simp) ?_
        refine AllReadyH.cons rfl (fun K hK => ?_) AllReadyH.nil
        go_simp
        go_at_call 52
        refine (HHS.out _).mono ?_
        rintro e w2 ⟨rfl, hw2⟩
        replace hw2 := hw2.symm
        subst hw2
        go_wp2_with fail
        refine hK.out _ _ HLD.out (fun hHeld => ?_)
        clear hK K
        try simp only [Act.put, List.setIfInBounds_toArray, List.set_cons_zero, List.set_cons_succ]
        refine wpAnyH_take (i := 3) (v := .bool true) rfl (by kernel_rfl) (by kernel_rfl) (by kernel_rfl) (fun _ _ _ h => h) (Or.inl ⟨by kernel_rfl, by intro w hSw; (try dsimp only at hSw); go_simp⟩) (by assumption) ?_
        simp only [Act.put, List.setIfInBounds_toArray, List.set_cons_zero, List.set_cons_succ]
        refine wpAnyH_take (i := 4) (v := .slice (some ⟨gu, 0, none⟩) ss.length cu) rfl (by kernel_rfl) (by kernel_rfl) (by kernel_rfl) (fun _ _ _ h => h) (Or.inl ⟨by kernel_rfl, by intro w hSw; (try dsimp only at hSw); go_simp⟩) (by assumption) ?_
        simp only [Act.put, List.setIfInBounds_toArray, List.set_cons_zero, List.set_cons_succ]
        refine wpAnyH_take (i := 5) (v := .int .i64 (j : Int)) rfl (by kernel_rfl) (by kernel_rfl) (by kernel_rfl) (fun _ _ _ h => h) (Or.inl ⟨by kernel_rfl, by intro w hSw; (try dsimp only at hSw); go_simp⟩) (by assumption) ?_
        simp only [Act.put, List.setIfInBounds_toArray, List.set_cons_zero, List.set_cons_succ]
        refine wpAnyH_take (i := 6) (v := .pointer (some ⟨gu, j * 9, none⟩)) rfl (by kernel_rfl) (by kernel_rfl) (by kernel_rfl) (fun _ _ _ h => h) (Or.inl ⟨by kernel_rfl, by intro w hSw; (try dsimp only at hSw); go_simp⟩) (by assumption) ?_
        simp only [Act.put, List.setIfInBounds_toArray, List.set_cons_zero, List.set_cons_succ]
        refine wpAnyH_take (i := 7) (v := .pointer (some ⟨gu, j * 9, none⟩)) rfl (by kernel_rfl) (by kernel_rfl) (by kernel_rfl) (fun _ _ _ h => h) (Or.inl ⟨by kernel_rfl, by intro w hSw; (try dsimp only at hSw); go_simp⟩) (by assumption) ?_
        simp only [Act.put, List.setIfInBounds_toArray, List.set_cons_zero, List.set_cons_succ]
        refine wpAnyH_take (i := 8) (v := .agg #[.int .i64 (j : Int), .int .i64 (dj : Int), .slice aj nj cj]) rfl (by kernel_rfl) (by kernel_rfl) (by kernel_rfl) (fun _ _ _ h => h) (Or.inl ⟨by kernel_rfl, by intro w hSw; (try dsimp only at hSw); obtain ⟨s0, s1, s2, s3, s4, s5⟩ := hSw; go_simp⟩) (by assumption) ?_
        simp only [Act.put, List.setIfInBounds_toArray, List.set_cons_zero, List.set_cons_succ]
        refine wpAnyH_take (i := 9) (v := .slice (some ⟨gu, 0, none⟩) ss.length cu) rfl (by kernel_rfl) (by kernel_rfl) (by kernel_rfl) (fun _ _ _ h => h) (Or.inl ⟨by kernel_rfl, by intro w hSw; (try dsimp only at hSw); go_simp⟩) (by assumption) ?_
        simp only [Act.put, List.setIfInBounds_toArray, List.set_cons_zero, List.set_cons_succ]
        refine wpAnyH_take (i := 10) (v := .int .i64 (k : Int)) rfl (by kernel_rfl) (by kernel_rfl) (by kernel_rfl) (fun _ _ _ h => h) (Or.inl ⟨by kernel_rfl, by intro w hSw; (try dsimp only at hSw); go_simp⟩) (by assumption) ?_
        simp only [Act.put, List.setIfInBounds_toArray, List.set_cons_zero, List.set_cons_succ]
        refine wpAnyH_take (i := 11) (v := .pointer (some ⟨gu, k * 9, none⟩)) rfl (by kernel_rfl) (by kernel_rfl) (by kernel_rfl) (fun _ _ _ h => h) (Or.inl ⟨by kernel_rfl, by intro w hSw; (try dsimp only at hSw); go_simp⟩) (by assumption) ?_
        simp only [Act.put, List.setIfInBounds_toArray, List.set_cons_zero, List.set_cons_succ]
        refine wpAnyH_take (i := 12) (v := .pointer (some ⟨gu, k * 9, none⟩)) rfl (by kernel_rfl) (by kernel_rfl) (by kernel_rfl) (fun _ _ _ h => h) (Or.inl ⟨by kernel_rfl, by intro w hSw; (try dsimp only at hSw); go_simp⟩) (by assumption) ?_
        simp only [Act.put, List.setIfInBounds_toArray, List.set_cons_zero, List.set_cons_succ]
        refine wpAnyH_take (i := 13) (v := .agg #[.int .i64 (k : Int), .int .i64 (dk : Int), .slice ak nk ck]) rfl (by kernel_rfl) (by kernel_rfl) (by kernel_rfl) (fun _ _ _ h => h) (Or.inl ⟨by kernel_rfl, by intro w hSw; (try dsimp only at hSw); obtain ⟨s0, s1, s2, s3, s4, s5⟩ := hSw; go_simp⟩) (by assumption) ?_
        simp only [Act.put, List.setIfInBounds_toArray, List.set_cons_zero, List.set_cons_succ]
        refine wpAnyH_ready (rs := [14]) (by kernel_rfl) (by simp) ?_
        refine AllReadyH.cons rfl (fun K hK => ?_) AllReadyH.nil
        go_simp
        go_at_call 133
        refine (HIB.out _).mono ?_
        rintro e w3 ⟨rfl, hb3⟩
        have HB3 := hid (HBd.out.trans (hb3.mono HBd.out.size))
        have HLD3 := hid (HCL.out _ HB3.out)
        clear hb3
        go_wp2_with fail
        refine hK.out _ _ HLD3.out (fun hHeld => ?_)
        clear hK K
        try simp only [Act.put, List.setIfInBounds_toArray, List.set_cons_zero, List.set_cons_succ]
        refine wpAnyH_take (i := 15) (v := .bool true) rfl (by kernel_rfl) (by kernel_rfl) (by kernel_rfl) (fun _ _ _ h => h) (Or.inl ⟨by kernel_rfl, by intro w hSw; (try dsimp only at hSw); go_simp⟩) (by assumption) ?_
        simp only [Act.put, List.setIfInBounds_toArray, List.set_cons_zero, List.set_cons_succ]
        refine wpAnyH_done (by kernel_rfl) ?_ _
        clear hHeld
        go_wp2
        exact ⟨⟨j + 1, by simp, by omega, by omega, HX, HB3⟩, by simp [intOf]; omega⟩
      · have HX : Hid (en = j) := hid (by rw [HE.out, HUE.out hd]; rfl)
        rw [show decide (dk < dj) = false by simp [hd]] at HIB
        clear hd HUS HUE HE
        have q3 : (k : Int) ≤ (j : Int) := by omega
        have q4 : (j : Int) ≤ (cu : Int) := by omega
        have q5 : ¬ k = cu := by omega
        go_wp2
        refine wp_region_held_drew (S := fun wx => wx.cell? ⟨gu, k * 9, none⟩ = some (.int .i64 (k : Int)) ∧ wx.cell? ⟨gu, k * 9 + 1, none⟩ = some (.int .i64 (dk : Int)) ∧ wx.cell? ⟨gu, k * 9 + 2, none⟩ = some (.slice ak nk ck) ∧ wx.cell? ⟨gu, j * 9, none⟩ = some (.int .i64 (j : Int)) ∧ wx.cell? ⟨gu, j * 9 + 1, none⟩ = some (.int .i64 (dj : Int)) ∧ wx.cell? ⟨gu, j * 9 + 2, none⟩ = some (.slice aj nj cj)) (by kernel_rfl) HLD.out (fun hHeld => ?_)
        refine wpAnyH_take (i := 0) (v := .slice (some ⟨gu, 0, none⟩) ss.length cu) rfl (by kernel_rfl) (by kernel_rfl) (by kernel_rfl) (fun _ _ _ h => h) (Or.inl ⟨by kernel_rfl, by intro w hSw; (try dsimp only at hSw); go_simp⟩) (by assumption) ?_
        simp only [Act.put, List.setIfInBounds_toArray, List.set_cons_zero, List.set_cons_succ]
        refine wpAnyH_take (i := 1) (v := .int .i64 (j : Int)) rfl (by kernel_rfl) (by kernel_rfl) (by kernel_rfl) (fun _ _ _ h => h) (Or.inl ⟨by kernel_rfl, by intro w hSw; (try dsimp only at hSw); go_simp⟩) (by assumption) ?_
        simp only [Act.put, List.setIfInBounds_toArray, List.set_cons_zero, List.set_cons_succ]
        refine wpAnyH_ready (rs := [2]) (by kernel_rfl) (by simp) ?_
        refine AllReadyH.cons rfl (fun K hK => ?_) AllReadyH.nil
        go_simp
        go_at_call 52
        refine (HHS.out _).mono ?_
        rintro e w2 ⟨rfl, hw2⟩
        replace hw2 := hw2.symm
        subst hw2
        go_wp2_with fail
        refine hK.out _ _ HLD.out (fun hHeld => ?_)
        clear hK K
        try simp only [Act.put, List.setIfInBounds_toArray, List.set_cons_zero, List.set_cons_succ]
        refine wpAnyH_take (i := 3) (v := .bool true) rfl (by kernel_rfl) (by kernel_rfl) (by kernel_rfl) (fun _ _ _ h => h) (Or.inl ⟨by kernel_rfl, by intro w hSw; (try dsimp only at hSw); go_simp⟩) (by assumption) ?_
        simp only [Act.put, List.setIfInBounds_toArray, List.set_cons_zero, List.set_cons_succ]
        refine wpAnyH_take (i := 4) (v := .slice (some ⟨gu, 0, none⟩) ss.length cu) rfl (by kernel_rfl) (by kernel_rfl) (by kernel_rfl) (fun _ _ _ h => h) (Or.inl ⟨by kernel_rfl, by intro w hSw; (try dsimp only at hSw); go_simp⟩) (by assumption) ?_
        simp only [Act.put, List.setIfInBounds_toArray, List.set_cons_zero, List.set_cons_succ]
        refine wpAnyH_take (i := 5) (v := .int .i64 (j : Int)) rfl (by kernel_rfl) (by kernel_rfl) (by kernel_rfl) (fun _ _ _ h => h) (Or.inl ⟨by kernel_rfl, by intro w hSw; (try dsimp only at hSw); go_simp⟩) (by assumption) ?_
        simp only [Act.put, List.setIfInBounds_toArray, List.set_cons_zero, List.set_cons_succ]
        refine wpAnyH_take (i := 6) (v := .pointer (some ⟨gu, j * 9, none⟩)) rfl (by kernel_rfl) (by kernel_rfl) (by kernel_rfl) (fun _ _ _ h => h) (Or.inl ⟨by kernel_rfl, by intro w hSw; (try dsimp only at hSw); go_simp⟩) (by assumption) ?_
        simp only [Act.put, List.setIfInBounds_toArray, List.set_cons_zero, List.set_cons_succ]
        refine wpAnyH_take (i := 7) (v := .pointer (some ⟨gu, j * 9, none⟩)) rfl (by kernel_rfl) (by kernel_rfl) (by kernel_rfl) (fun _ _ _ h => h) (Or.inl ⟨by kernel_rfl, by intro w hSw; (try dsimp only at hSw); go_simp⟩) (by assumption) ?_
        simp only [Act.put, List.setIfInBounds_toArray, List.set_cons_zero, List.set_cons_succ]
        refine wpAnyH_take (i := 8) (v := .agg #[.int .i64 (j : Int), .int .i64 (dj : Int), .slice aj nj cj]) rfl (by kernel_rfl) (by kernel_rfl) (by kernel_rfl) (fun _ _ _ h => h) (Or.inl ⟨by kernel_rfl, by intro w hSw; (try dsimp only at hSw); obtain ⟨s0, s1, s2, s3, s4, s5⟩ := hSw; go_simp⟩) (by assumption) ?_
        simp only [Act.put, List.setIfInBounds_toArray, List.set_cons_zero, List.set_cons_succ]
        refine wpAnyH_take (i := 9) (v := .slice (some ⟨gu, 0, none⟩) ss.length cu) rfl (by kernel_rfl) (by kernel_rfl) (by kernel_rfl) (fun _ _ _ h => h) (Or.inl ⟨by kernel_rfl, by intro w hSw; (try dsimp only at hSw); go_simp⟩) (by assumption) ?_
        simp only [Act.put, List.setIfInBounds_toArray, List.set_cons_zero, List.set_cons_succ]
        refine wpAnyH_take (i := 10) (v := .int .i64 (k : Int)) rfl (by kernel_rfl) (by kernel_rfl) (by kernel_rfl) (fun _ _ _ h => h) (Or.inl ⟨by kernel_rfl, by intro w hSw; (try dsimp only at hSw); go_simp⟩) (by assumption) ?_
        simp only [Act.put, List.setIfInBounds_toArray, List.set_cons_zero, List.set_cons_succ]
        refine wpAnyH_take (i := 11) (v := .pointer (some ⟨gu, k * 9, none⟩)) rfl (by kernel_rfl) (by kernel_rfl) (by kernel_rfl) (fun _ _ _ h => h) (Or.inl ⟨by kernel_rfl, by intro w hSw; (try dsimp only at hSw); go_simp⟩) (by assumption) ?_
        simp only [Act.put, List.setIfInBounds_toArray, List.set_cons_zero, List.set_cons_succ]
        refine wpAnyH_take (i := 12) (v := .pointer (some ⟨gu, k * 9, none⟩)) rfl (by kernel_rfl) (by kernel_rfl) (by kernel_rfl) (fun _ _ _ h => h) (Or.inl ⟨by kernel_rfl, by intro w hSw; (try dsimp only at hSw); go_simp⟩) (by assumption) ?_
        simp only [Act.put, List.setIfInBounds_toArray, List.set_cons_zero, List.set_cons_succ]
        refine wpAnyH_take (i := 13) (v := .agg #[.int .i64 (k : Int), .int .i64 (dk : Int), .slice ak nk ck]) rfl (by kernel_rfl) (by kernel_rfl) (by kernel_rfl) (fun _ _ _ h => h) (Or.inl ⟨by kernel_rfl, by intro w hSw; (try dsimp only at hSw); obtain ⟨s0, s1, s2, s3, s4, s5⟩ := hSw; go_simp⟩) (by assumption) ?_
        simp only [Act.put, List.setIfInBounds_toArray, List.set_cons_zero, List.set_cons_succ]
        refine wpAnyH_ready (rs := [14]) (by kernel_rfl) (by simp) ?_
        refine AllReadyH.cons rfl (fun K hK => ?_) AllReadyH.nil
        go_simp
        go_at_call 133
        refine (HIB.out _).mono ?_
        rintro e w3 ⟨rfl, hb3⟩
        have HB3 := hid (HBd.out.trans (hb3.mono HBd.out.size))
        have HLD3 := hid (HCL.out _ HB3.out)
        clear hb3
        go_wp2_with fail
        refine hK.out _ _ HLD3.out (fun hHeld => ?_)
        clear hK K
        try simp only [Act.put, List.setIfInBounds_toArray, List.set_cons_zero, List.set_cons_succ]
        refine wpAnyH_take (i := 15) (v := .bool false) rfl (by kernel_rfl) (by kernel_rfl) (by kernel_rfl) (fun _ _ _ h => h) (Or.inl ⟨by kernel_rfl, by intro w hSw; (try dsimp only at hSw); go_simp⟩) (by assumption) ?_
        simp only [Act.put, List.setIfInBounds_toArray, List.set_cons_zero, List.set_cons_succ]
        refine wpAnyH_done (by kernel_rfl) ?_ _
        clear hHeld
        go_wp2
        go_ret
        exact ⟨by rw [HX.out]; simp, HB3.out⟩
    · have HHS : Hid (∀ w', Calls Tryz.prog 52 #[.slice (some ⟨gu, 0, none⟩) ss.length cu, .int .i64 (j : Int)] w' fun e w'' => e = .returned (.bool false) ∧ w'' = w') := hid (fun w' => by
        have := hasStep (some ⟨gu, 0, none⟩) ss.length cu (j : Int) w' (by omega)
        rwa [show (decide ((0 : Int) ≤ (j : Int)) && decide ((j : Int) < (ss.length : Int))) = false by simp; omega] at this)
      have HX : Hid (en = j) := hid (by rw [HE.out, u_end (by omega)]; rfl)
      have q3 : (k : Int) ≤ (j : Int) := by omega
      have q4 : (j : Int) ≤ (cu : Int) := by omega
      have q5 : ¬ k = cu := by omega
      clear HE
      go_wp2
      try simp only [List.append_eq, List.cons_append, List.nil_append]
      go_quiet ((go_at_call 52; exact Calls.quiet_of_same (HHS.out _)))
      go_wp2
      go_ret
      exact ⟨by rw [HX.out]; simp, Ints.below_drewN HB.out nq⟩
end Ku
end Go.Proofs.YtpgbjpfpgbjbeaaGreatDoor
/- The fault of a chart, told plainly. -/
namespace Go.Proofs.YtpgbjpfpgbjbeaaGreatDoor
set_option linter.unusedVariables false
namespace Kc
open Ex (inR evalCode evalVal vFault hid)
open St (StepD)
open Ch (RunD)
open Pf
def fA (r : RunD) : Nat → Int := fun i => r.marks.getD i 0
def fD (r : RunD) : Nat → Int := fun i => r.dues.getD i 0
theorem fA_eq {r : RunD} {i : Nat} (h : i < r.marks.length) : fA r i = r.marks[i] := by unfold fA; rw [List.getD_eq_getElem?_getD, List.getElem?_eq_getElem h]; rfl
theorem fD_eq {r : RunD} {i : Nat} (h : i < r.dues.length) : fD r i = r.dues[i] := by unfold fD; rw [List.getD_eq_getElem?_getD, List.getElem?_eq_getElem h]; rfl
def within (l : List Int) (m : Int) : Bool := l.all fun x => inR x 0 m
def stateC (st now : Int) (vars : List Int) : Int := if inR st 1 3 = false then 3 else if inR now 0 1000000 = false then 3 else vFault vars
def numC (n : Nat) (r : RunD) : Int :=
  if stateC r.status r.now r.vars ≠ 0 then stateC r.status r.now r.vars else if r.marks.length ≠ n then 2 else if r.dues.length ≠ n then 2 else if within r.marks 2 = false then 3 else if within r.dues (r.now + 99) = false then 3 else 0
def cntK (A : Nat → Int) (l : List Nat) (v : Int) : Nat := (l.filter fun j => A j == v).length
theorem cntK_nil (A : Nat → Int) (v : Int) : cntK A [] v = 0 := rfl
theorem cntK_snoc (A : Nat → Int) (l : List Nat) (j : Nat) (v : Int) : cntK A (l ++ [j]) v = cntK A l v + (if A j = v then 1 else 0) := by
  unfold cntK
  rw [List.filter_append, List.length_append]
  by_cases h : A j = v <;> simp [h]
theorem cntK_le (A : Nat → Int) (l : List Nat) (v : Int) : cntK A l v ≤ l.length := List.length_filter_le _ _
theorem cntK_two (A : Nat → Int) : ∀ (l : List Nat), cntK A l 1 + cntK A l 2 ≤ l.length
  | [] => Nat.le_refl _
  | a :: l => by
    have := cntK_two A l
    unfold cntK at this ⊢
    simp only [List.filter_cons, List.length_cons]
    by_cases h1 : A a = 1
    · simp [h1]; omega
    · by_cases h2 : A a = 2
      · simp [h2]; omega
      · simp [h1, h2]; omega
/-- Does what is on at a step not go with its kids, or with its due? (as the specification asks it) -/
def wrongP (ss : List StepD) (A D : Nat → Int) (k : Nat) : Bool :=
  if A k ≠ 1 then decide (0 < cntK A (kidsL ss k) 1 + cntK A (kidsL ss k) 2) || (D k != 0)
  else if (PJ ss k).kind = 1 ∨ (PJ ss k).kind = 3 then (cntK A (kidsL ss k) 1 != 1) || decide (0 < cntK A (kidsL ss k) 2) || (D k != 0)
  else if (PJ ss k).kind = 4 then decide (cntK A (kidsL ss k) 1 < 1) || (cntK A (kidsL ss k) 1 + cntK A (kidsL ss k) 2 != (kidsL ss k).length) || (D k != 0)
  else if (PJ ss k).kind = 8 then (cntK A (kidsL ss k) 1 != 1) || decide (0 < cntK A (kidsL ss k) 2) || ((D k != 0) != (A (kid ss k 0) == 1))
  else if (PJ ss k).kind = 6 then !(D k != 0)
  else if (PJ ss k).kind = 7 then true
  else (D k != 0)
def zeros (l : List Int) : Bool := l.all fun x => x == 0
def fitsP (ss : List StepD) (r : RunD) : Bool :=
  if r.status ≠ 1 then zeros r.marks && zeros r.dues else (fA r 0 == 1) && (List.range ss.length).all fun k => !wrongP ss (fA r) (fD r) k
def chartC (ss : List StepD) (r : RunD) : Int :=
  if pFault ss ≠ 0 then pFault ss else if numC ss.length r ≠ 0 then numC ss.length r else if fitsP ss r = true then 0 else 1
theorem c_proc {ss : List StepD} {r : RunD} (h : pFault ss ≠ 0) : chartC ss r = pFault ss := by unfold chartC; rw [if_pos h]
theorem c_num {ss : List StepD} {r : RunD} (h : pFault ss = 0) (h2 : numC ss.length r ≠ 0) : chartC ss r = numC ss.length r := by unfold chartC; rw [if_neg (by simp [h]), if_pos h2]
theorem c_form {ss : List StepD} {r : RunD} (h : pFault ss = 0) (h2 : numC ss.length r = 0) (h3 : fitsP ss r = false) : chartC ss r = 1 := by unfold chartC; rw [if_neg (by simp [h]), if_neg (by simp [h2]), if_neg (by simp [h3])]
theorem c_ok {ss : List StepD} {r : RunD} (h : pFault ss = 0) (h2 : numC ss.length r = 0) (h3 : fitsP ss r = true) : chartC ss r = 0 := by unfold chartC; rw [if_neg (by simp [h]), if_neg (by simp [h2]), if_pos h3]
theorem of_c {ss : List StepD} {r : RunD} (h : chartC ss r = 0) : pFault ss = 0 ∧ numC ss.length r = 0 ∧ fitsP ss r = true := by
  by_cases h1 : pFault ss = 0
  · by_cases h2 : numC ss.length r = 0
    · cases h3 : fitsP ss r
      · rw [c_form h1 h2 h3] at h; cases h
      · exact ⟨h1, h2, rfl⟩
    · rw [c_num h1 h2] at h; exact absurd h h2
  · rw [c_proc h1] at h; exact absurd h h1
theorem num_state {n : Nat} {r : RunD} (h : stateC r.status r.now r.vars ≠ 0) : numC n r = stateC r.status r.now r.vars := by unfold numC; rw [if_pos h]
theorem num_len {n : Nat} {r : RunD} (h : stateC r.status r.now r.vars = 0) (h2 : ¬ (r.marks.length = n ∧ r.dues.length = n)) : numC n r = 2 := by
  unfold numC
  rw [if_neg (by simp [h])]
  by_cases h3 : r.marks.length = n
  · rw [if_neg (by simp [h3]), if_pos (fun e => h2 ⟨h3, e⟩)]
  · rw [if_pos h3]
theorem num_range {n : Nat} {r : RunD} (h : stateC r.status r.now r.vars = 0) (h1 : r.marks.length = n) (h2 : r.dues.length = n) (h3 : (within r.marks 2 && within r.dues (r.now + 99)) = false) : numC n r = 3 := by
  unfold numC
  rw [if_neg (by simp [h]), if_neg (by simp [h1]), if_neg (by simp [h2])]
  cases h4 : within r.marks 2
  · rw [if_pos rfl]
  · rw [h4] at h3
    rw [if_neg (by simp), if_pos (by simpa using h3)]
theorem num_ok {n : Nat} {r : RunD} (h : stateC r.status r.now r.vars = 0) (h1 : r.marks.length = n) (h2 : r.dues.length = n) (h3 : within r.marks 2 = true) (h4 : within r.dues (r.now + 99) = true) : numC n r = 0 := by
  unfold numC
  rw [if_neg (by simp [h]), if_neg (by simp [h1]), if_neg (by simp [h2]), if_neg (by simp [h3]), if_neg (by simp [h4])]
theorem of_num {n : Nat} {r : RunD} (h : numC n r = 0) : stateC r.status r.now r.vars = 0 ∧ r.marks.length = n ∧ r.dues.length = n ∧ within r.marks 2 = true ∧ within r.dues (r.now + 99) = true := by
  by_cases h1 : stateC r.status r.now r.vars = 0
  · by_cases h2 : r.marks.length = n ∧ r.dues.length = n
    · cases h3 : (within r.marks 2 && within r.dues (r.now + 99))
      · rw [num_range h1 h2.1 h2.2 h3] at h; cases h
      · simp only [Bool.and_eq_true] at h3
        exact ⟨h1, h2.1, h2.2, h3.1, h3.2⟩
    · rw [num_len h1 h2] at h; cases h
  · rw [num_state h1] at h; exact absurd h h1
theorem st_status {st now : Int} {vars : List Int} (h : inR st 1 3 = false) : stateC st now vars = 3 := by unfold stateC; rw [if_pos h]
theorem st_now {st now : Int} {vars : List Int} (h : inR st 1 3 = true) (h2 : inR now 0 1000000 = false) : stateC st now vars = 3 := by unfold stateC; rw [if_neg (by simp [h]), if_pos h2]
theorem st_vars {st now : Int} {vars : List Int} (h : inR st 1 3 = true) (h2 : inR now 0 1000000 = true) : stateC st now vars = vFault vars := by unfold stateC; rw [if_neg (by simp [h]), if_neg (by simp [h2])]
theorem of_state {st now : Int} {vars : List Int} (h : stateC st now vars = 0) : inR st 1 3 = true ∧ inR now 0 1000000 = true ∧ vFault vars = 0 := by
  cases h1 : inR st 1 3
  · rw [st_status h1] at h; cases h
  · cases h2 : inR now 0 1000000
    · rw [st_now h1 h2] at h; cases h
    · exact ⟨rfl, rfl, (st_vars h1 h2) ▸ h⟩
theorem within_take {l : List Int} {m : Int} {i : Nat} (hi : i < l.length) : within (l.take (i + 1)) m = (within (l.take i) m && inR l[i] 0 m) := by
  unfold within
  rw [List.take_succ_eq_append_getElem hi, List.all_append]
  simp
theorem within_all {l : List Int} {m : Int} (h : within l m = true) {i : Nat} (hi : i < l.length) : 0 ≤ l[i] ∧ l[i] ≤ m := by
  unfold within at h
  rw [List.all_eq_true] at h
  exact Ex.inR_iff.1 (h _ (List.getElem_mem hi))
theorem within_bad {l : List Int} {m : Int} {i : Nat} (hi : i < l.length) (h : inR l[i] 0 m = false) : within l m = false := by
  unfold within
  rw [List.all_eq_false]
  exact ⟨_, List.getElem_mem hi, by simp [h]⟩
theorem zeros_take {l : List Int} {i : Nat} (hi : i < l.length) : zeros (l.take (i + 1)) = (zeros (l.take i) && (l[i] == 0)) := by
  unfold zeros
  rw [List.take_succ_eq_append_getElem hi, List.all_append]
  simp
theorem kids_none {ss : List StepD} {k : Nat} (hp : pFault ss = 0) (hk : k < ss.length) (h : (PJ ss k).kind = 2 ∨ (PJ ss k).kind = 5 ∨ (PJ ss k).kind = 6 ∨ (PJ ss k).kind = 7) : kidsL ss k = [] := by
  have := many hp hk
  rcases h with h | h | h | h <;> rw [h] at this <;> simpa [manyOk] using this
theorem kind_in {ss : List StepD} {k : Nat} (hp : pFault ss = 0) (hk : k < ss.length) : 1 ≤ (PJ ss k).kind ∧ (PJ ss k).kind ≤ 8 := by
  have h := (of_one (first_all (of_p hp).2.1 hk)).1
  unfold formOk at h
  simp only [Bool.and_eq_true] at h
  exact Ex.inR_iff.1 h.1
/-- The same, as the program asks it. -/
def rightKids (ss : List StepD) (A : Nat → Int) (k : Nat) : Bool :=
  if (kidsL ss k).length = 0 then true
  else if A k ≠ 1 then (cntK A (kidsL ss k) 1 == 0) && (cntK A (kidsL ss k) 2 == 0)
  else if (PJ ss k).kind = 4 then decide (0 < cntK A (kidsL ss k) 1) && (cntK A (kidsL ss k) 1 + cntK A (kidsL ss k) 2 == (kidsL ss k).length)
  else (cntK A (kidsL ss k) 1 == 1) && (cntK A (kidsL ss k) 2 == 0)
def rightDue (ss : List StepD) (A D : Nat → Int) (k : Nat) : Bool :=
  if (PJ ss k).kind = 6 then (D k != 0) == (A k == 1)
  else if (PJ ss k).kind = 8 then (D k != 0) == (A (kid ss k 0) == 1)
  else !(D k != 0)
def badP (ss : List StepD) (A D : Nat → Int) (k : Nat) : Bool := ((PJ ss k).kind == 7 && A k == 1) || !rightKids ss A k || !rightDue ss A D k
theorem cnt_pos {A : Nat → Int} {l : List Nat} {j : Nat} {v : Int} (hj : j ∈ l) (h : A j = v) : 0 < cntK A l v := by
  unfold cntK
  exact List.length_pos_of_mem (List.mem_filter.2 ⟨hj, by simp [h]⟩)
theorem bad_wrong' (kind ak a0 dk : Int) (on ov n : Nat) (h1 : 1 ≤ kind) (h8 : kind ≤ 8) (hn : kind = 1 ∨ kind = 3 ∨ kind = 4 ∨ kind = 8 → n ≠ 0) (hz : kind = 2 ∨ kind = 5 ∨ kind = 6 ∨ kind = 7 → n = 0 ∧ on = 0 ∧ ov = 0) (h0 : kind = 8 → a0 = 1 → 0 < on) :
    ((kind == 7 && ak == 1) || !(if n = 0 then true else if ak ≠ 1 then (on == 0) && (ov == 0) else if kind = 4 then decide (0 < on) && (on + ov == n) else (on == 1) && (ov == 0)) || !(if kind = 6 then (dk != 0) == (ak == 1) else if kind = 8 then (dk != 0) == (a0 == 1) else !(dk != 0))) =
    (if ak ≠ 1 then decide (0 < on + ov) || (dk != 0) else if kind = 1 ∨ kind = 3 then (on != 1) || decide (0 < ov) || (dk != 0) else if kind = 4 then decide (on < 1) || (on + ov != n) || (dk != 0) else if kind = 8 then (on != 1) || decide (0 < ov) || ((dk != 0) != (a0 == 1)) else if kind = 6 then !(dk != 0) else if kind = 7 then true else (dk != 0)) := by
  have c8 : kind = 1 ∨ kind = 3 ∨ kind = 4 ∨ kind = 8 ∨ kind = 2 ∨ kind = 5 ∨ kind = 6 ∨ kind = 7 := by omega
  rw [Bool.eq_iff_iff]
  obtain ⟨pa, ea⟩ : ∃ pa, pa = (ak == 1) := ⟨_, rfl⟩
  obtain ⟨pd, ed⟩ : ∃ pd, pd = (dk != 0) := ⟨_, rfl⟩
  obtain ⟨px, ex⟩ : ∃ px, px = (a0 == 1) := ⟨_, rfl⟩
  rw [← ea, ← ed, ← ex]
  have fa : ak = 1 ↔ pa = true := by rw [ea]; simp
  have fx : a0 = 1 ↔ px = true := by rw [ex]; simp
  rw [fx] at h0
  simp only [ne_eq, fa]
  clear ea ed ex fa fx
  cases pa <;> cases pd <;> cases px
  all_goals
    rcases c8 with rfl | rfl | rfl | rfl | rfl | rfl | rfl | rfl
  all_goals
    simp at hn hz h0 ⊢
  all_goals
    first | omega | (simp [hn]; done) | (simp [hn]; omega) | (simp [hz]; done) | (simp [hz]; omega) | skip
theorem bad_wrong {ss : List StepD} (A D : Nat → Int) {k : Nat} (hp : pFault ss = 0) (hk : k < ss.length) : badP ss A D k = wrongP ss A D k := by
  obtain ⟨h1, h8⟩ := kind_in hp hk
  unfold badP wrongP rightKids rightDue
  refine bad_wrong' _ _ _ _ _ _ _ h1 h8 (fun h => ?_) (fun h => ?_) (fun h ha => ?_)
  · rcases h with h | h | h | h
    · have := kids_seq hp hk h; omega
    · have := kids_two hp hk (.inl h); omega
    · have := kids_two hp hk (.inr h); omega
    · have := kids_guard hp hk h; omega
  · rw [kids_none hp hk h]
    exact ⟨rfl, rfl, rfl⟩
  · have := kids_guard hp hk h
    exact cnt_pos (kid_in (by omega)) ha
end Kc
end Go.Proofs.YtpgbjpfpgbjbeaaGreatDoor
