/- A step and all below it, by the program. -/
import Derived.Test.YtbojdlkibffcjaaDoorPqU
import Derived.Test.YtbojdlkibffcjaaDoorKcM
import Derived.Test.YtbojdlkibffcjaaDoorPiE
import Derived.Deep.RegionHeld3
namespace Go.Proofs.YtbojdlkibffcjaaDoor
open Go.RowKit Go.Deep
set_option linter.unusedVariables false
set_option linter.unusedSimpArgs false
namespace Ku
open Ex (inR evalCode evalVal vFault hid)
open St (StepD)
open Pf
open Kc (endOf)
set_option maxRecDepth 100000 in
set_option maxHeartbeats 1000000 in
theorem hasStep (a : Option Addr) (n c : Nat) (x : Int) (w : World) (hn : n ≤ 1048576) : Calls Tryd.prog 19 #[.slice a n c, .int .i64 x] w fun e w' => e = .returned (.bool (decide (0 ≤ x) && decide (x < (n : Int)))) ∧ w' = w := by
  by_cases h1 : (0 : Int) ≤ x
  · by_cases h2 : x < (n : Int)
    · have HV : Hid ((decide (0 ≤ x) && decide (x < (n : Int))) = true) := hid (by simp [h1, h2])
      generalize (decide (0 ≤ x) && decide (x < (n : Int))) = bb at *
      go_enter Tryd.func19, Tryd.ntmps19
      go_wp2
      go_ret
      exact ⟨by rw [HV.out]; rfl, rfl⟩
    · have HV : Hid ((decide (0 ≤ x) && decide (x < (n : Int))) = false) := hid (by simp [h2])
      generalize (decide (0 ≤ x) && decide (x < (n : Int))) = bb at *
      go_enter Tryd.func19, Tryd.ntmps19
      go_wp2
      go_ret
      exact ⟨by rw [HV.out]; rfl, rfl⟩
  · have HV : Hid ((decide (0 ≤ x) && decide (x < (n : Int))) = false) := hid (by simp [h1])
    generalize (decide (0 ≤ x) && decide (x < (n : Int))) = bb at *
    go_enter Tryd.func19, Tryd.ntmps19
    go_wp2
    go_ret
    exact ⟨by rw [HV.out]; rfl, rfl⟩
set_option maxRecDepth 100000 in
set_option maxHeartbeats 16000000 in
theorem withAllBelow (ss : List StepD) (gu cu k : Nat) (w : World) (hl : ss.length ≤ 24) (hk : k < ss.length) (hP : PAt w ss (.slice (some ⟨gu, 0, none⟩) ss.length cu)) (hcap : capOk (.slice (some ⟨gu, 0, none⟩) ss.length cu)) :
    Calls Tryd.prog 20 #[.slice (some ⟨gu, 0, none⟩) ss.length cu, .int .i64 (k : Int)] w fun e w' => e = .returned (.slice (some ⟨gu, k * 9, none⟩) (endOf ss k - k) (cu - k)) ∧ Below w.heap.size w w' := by
  have hc := hcap _ _ _ rfl
  unfold maxLen at hc
  have HP := hid hP
  obtain ⟨_, _, e0, hgu, hcs⟩ := hP
  cases e0
  obtain ⟨kv, vc, ve, d0, d1, d2, _, _, _, _, _, _, hpc⟩ := hcs k hk
  obtain ⟨ak, ck, rfl⟩ := hpc.kids.slice
  have HK : Hid (w.cell? ⟨gu, k * 9, none⟩ = some (.int .i64 (k : Int)) ∧ w.cell? ⟨gu, k * 9 + 1, none⟩ = some (.int .i64 (dOf ss k : Int)) ∧ w.cell? ⟨gu, k * 9 + 2, none⟩ = some (.slice ak (kidsL ss k).length ck)) := hid ⟨d0, d1, d2⟩
  clear hcap hcs d0 d1 d2 hpc
  generalize (kidsL ss k).length = nk at *
  generalize hres : endOf ss k = en at *
  have HEN := hid hres
  clear hres
  go_enter Tryd.func20, Tryd.ntmps20
  go_wp2
  go_loopw [5] (fun x wr => ∃ j : Nat, x = .int .i64 j ∧ k < j ∧ j ≤ ss.length ∧ Hid (en = j + (uFrom ss k j).length) ∧ Hid (Below w.heap.size w wr)) (fun x _ => ss.length - (intOf x).toNat)
  case atStart => exact ⟨k + 1, by simp, by omega, by omega, hid (by rw [← HEN.out]; unfold endOf underN; rw [List.length_cons]; omega), hid (Below.refl _ _)⟩
  case round =>
    obtain ⟨j, rfl, hkj, hjl, HE, HB⟩ := hrel
    have HBd : Hid (Below w.heap.size w wr.drew) := hid HB.out.drew
    by_cases hlt : j < ss.length
    · have HHS : Hid (∀ w', Calls Tryd.prog 19 #[.slice (some ⟨gu, 0, none⟩) ss.length cu, .int .i64 (j : Int)] w' fun e w'' => e = .returned (.bool true) ∧ w'' = w') := hid (fun w' => by
        have := hasStep (some ⟨gu, 0, none⟩) ss.length cu (j : Int) w' (by omega)
        rwa [show (decide ((0 : Int) ≤ (j : Int)) && decide ((j : Int) < (ss.length : Int))) = true by simp; omega] at this)
      obtain ⟨_, _, e0, _, hcs⟩ := HP.out
      cases e0
      obtain ⟨kv, vc, ve, d0, d1, d2, _, _, _, _, _, _, hpc⟩ := hcs j hlt
      obtain ⟨aj, cj, rfl⟩ := hpc.kids.slice
      have HJ : Hid (w.cell? ⟨gu, j * 9, none⟩ = some (.int .i64 (j : Int)) ∧ w.cell? ⟨gu, j * 9 + 1, none⟩ = some (.int .i64 (dOf ss j : Int)) ∧ w.cell? ⟨gu, j * 9 + 2, none⟩ = some (.slice aj (kidsL ss j).length cj)) := hid ⟨d0, d1, d2⟩
      have HUS := hid (u_step (k := k) hlt)
      have HUE := hid (u_stop (k := k) hlt)
      have HIB := hid (fun w' => isBelow (j : Int) (k : Int) (dOf ss j) (dOf ss k) aj ak (kidsL ss j).length cj nk ck w')
      have q1 : (j : Int) < (ss.length : Int) := by omega
      have q2 : (k : Int) < (ss.length : Int) := by omega
      clear hcs d0 d1 d2 hpc
      generalize (kidsL ss j).length = nj at *
      generalize dOf ss j = dj at *
      generalize dOf ss k = dk at *
      have HCL : Hid (∀ wx, Below w.heap.size w wx → wx.cell? ⟨gu, k * 9, none⟩ = some (.int .i64 (k : Int)) ∧ wx.cell? ⟨gu, k * 9 + 1, none⟩ = some (.int .i64 (dk : Int)) ∧ wx.cell? ⟨gu, k * 9 + 2, none⟩ = some (.slice ak nk ck) ∧ wx.cell? ⟨gu, j * 9, none⟩ = some (.int .i64 (j : Int)) ∧ wx.cell? ⟨gu, j * 9 + 1, none⟩ = some (.int .i64 (dj : Int)) ∧ wx.cell? ⟨gu, j * 9 + 2, none⟩ = some (.slice aj nj cj)) := hid (fun wx hb => ⟨(hb.cell (p := ⟨gu, k * 9, none⟩) hgu).trans HK.out.1, (hb.cell (p := ⟨gu, k * 9 + 1, none⟩) hgu).trans HK.out.2.1, (hb.cell (p := ⟨gu, k * 9 + 2, none⟩) hgu).trans HK.out.2.2, (hb.cell (p := ⟨gu, j * 9, none⟩) hgu).trans HJ.out.1, (hb.cell (p := ⟨gu, j * 9 + 1, none⟩) hgu).trans HJ.out.2.1, (hb.cell (p := ⟨gu, j * 9 + 2, none⟩) hgu).trans HJ.out.2.2⟩)
      have HLD := hid (HCL.out _ HBd.out)
      by_cases hd : dk < dj
      · have HX : Hid (en = (j + 1) + (uFrom ss k (j + 1)).length) := hid (by rw [HE.out, HUS.out hd, List.length_cons]; omega)
        rw [show decide (dk < dj) = true by simp [hd]] at HIB
        clear hd HUS HUE HE
        go_wp2
        refine wp_region_held_drew (S := fun wx => wx.cell? ⟨gu, k * 9, none⟩ = some (.int .i64 (k : Int)) ∧ wx.cell? ⟨gu, k * 9 + 1, none⟩ = some (.int .i64 (dk : Int)) ∧ wx.cell? ⟨gu, k * 9 + 2, none⟩ = some (.slice ak nk ck) ∧ wx.cell? ⟨gu, j * 9, none⟩ = some (.int .i64 (j : Int)) ∧ wx.cell? ⟨gu, j * 9 + 1, none⟩ = some (.int .i64 (dj : Int)) ∧ wx.cell? ⟨gu, j * 9 + 2, none⟩ = some (.slice aj nj cj)) (by kernel_rfl) HLD.out (fun hHeld => ?_)
        refine wpAnyH_take (i := 0) (v := .slice (some ⟨gu, 0, none⟩) ss.length cu) rfl (by kernel_rfl) (by kernel_rfl) (by kernel_rfl) (fun _ _ _ h => h) (Or.inl ⟨by kernel_rfl, by intro w hSw; (try dsimp only at hSw); go_simp⟩) (by assumption) ?_
        simp only [Act.put, List.setIfInBounds_toArray, List.set_cons_zero, List.set_cons_succ]
        refine wpAnyH_take (i := 1) (v := .int .i64 (j : Int)) rfl (by kernel_rfl) (by kernel_rfl) (by kernel_rfl) (fun _ _ _ h => h) (Or.inl ⟨by kernel_rfl, by intro w hSw; (try dsimp only at hSw); go_simp⟩) (by assumption) ?_
        simp only [Act.put, List.setIfInBounds_toArray, List.set_cons_zero, List.set_cons_succ]
        refine wpAnyH_ready (rs := [2]) (by kernel_rfl) (by simp) ?_
        refine AllReadyH.cons rfl (fun K hK => ?_) AllReadyH.nil
        go_simp
        go_at_call 19
        refine (HHS.out _).mono ?_
        rintro e w2 ⟨rfl, hw2⟩
        replace hw2 := hw2.symm
        subst hw2
        go_wp2_with fail
        refine hK.out _ _ HLD.out (fun hHeld => ?_)
        clear hK K
        try simp only [Act.put, List.setIfInBounds_toArray, List.set_cons_zero, List.set_cons_succ]
        refine wpAnyH_take (i := 3) (v := .bool true) rfl (by kernel_rfl) (by kernel_rfl) (by kernel_rfl) (fun _ _ _ h => h) (Or.inl ⟨by kernel_rfl, by intro w hSw; (try dsimp only at hSw); go_simp⟩) (by assumption) ?_
        simp only [Act.put, List.setIfInBounds_toArray, List.set_cons_zero, List.set_cons_succ]
        refine wpAnyH_take (i := 4) (v := .slice (some ⟨gu, 0, none⟩) ss.length cu) rfl (by kernel_rfl) (by kernel_rfl) (by kernel_rfl) (fun _ _ _ h => h) (Or.inl ⟨by kernel_rfl, by intro w hSw; (try dsimp only at hSw); go_simp⟩) (by assumption) ?_
        simp only [Act.put, List.setIfInBounds_toArray, List.set_cons_zero, List.set_cons_succ]
        refine wpAnyH_take (i := 5) (v := .int .i64 (j : Int)) rfl (by kernel_rfl) (by kernel_rfl) (by kernel_rfl) (fun _ _ _ h => h) (Or.inl ⟨by kernel_rfl, by intro w hSw; (try dsimp only at hSw); go_simp⟩) (by assumption) ?_
        simp only [Act.put, List.setIfInBounds_toArray, List.set_cons_zero, List.set_cons_succ]
        refine wpAnyH_take (i := 6) (v := .pointer (some ⟨gu, j * 9, none⟩)) rfl (by kernel_rfl) (by kernel_rfl) (by kernel_rfl) (fun _ _ _ h => h) (Or.inl ⟨by kernel_rfl, by intro w hSw; (try dsimp only at hSw); go_simp⟩) (by assumption) ?_
        simp only [Act.put, List.setIfInBounds_toArray, List.set_cons_zero, List.set_cons_succ]
        refine wpAnyH_take (i := 7) (v := .pointer (some ⟨gu, j * 9, none⟩)) rfl (by kernel_rfl) (by kernel_rfl) (by kernel_rfl) (fun _ _ _ h => h) (Or.inl ⟨by kernel_rfl, by intro w hSw; (try dsimp only at hSw); go_simp⟩) (by assumption) ?_
        simp only [Act.put, List.setIfInBounds_toArray, List.set_cons_zero, List.set_cons_succ]
        refine wpAnyH_take (i := 8) (v := .agg #[.int .i64 (j : Int), .int .i64 (dj : Int), .slice aj nj cj]) rfl (by kernel_rfl) (by kernel_rfl) (by kernel_rfl) (fun _ _ _ h => h) (Or.inl ⟨by kernel_rfl, by intro w hSw; (try dsimp only at hSw); obtain ⟨s0, s1, s2, s3, s4, s5⟩ := hSw; go_simp⟩) (by assumption) ?_
        simp only [Act.put, List.setIfInBounds_toArray, List.set_cons_zero, List.set_cons_succ]
        refine wpAnyH_take (i := 9) (v := .slice (some ⟨gu, 0, none⟩) ss.length cu) rfl (by kernel_rfl) (by kernel_rfl) (by kernel_rfl) (fun _ _ _ h => h) (Or.inl ⟨by kernel_rfl, by intro w hSw; (try dsimp only at hSw); go_simp⟩) (by assumption) ?_
        simp only [Act.put, List.setIfInBounds_toArray, List.set_cons_zero, List.set_cons_succ]
        refine wpAnyH_take (i := 10) (v := .int .i64 (k : Int)) rfl (by kernel_rfl) (by kernel_rfl) (by kernel_rfl) (fun _ _ _ h => h) (Or.inl ⟨by kernel_rfl, by intro w hSw; (try dsimp only at hSw); go_simp⟩) (by assumption) ?_
        simp only [Act.put, List.setIfInBounds_toArray, List.set_cons_zero, List.set_cons_succ]
        refine wpAnyH_take (i := 11) (v := .pointer (some ⟨gu, k * 9, none⟩)) rfl (by kernel_rfl) (by kernel_rfl) (by kernel_rfl) (fun _ _ _ h => h) (Or.inl ⟨by kernel_rfl, by intro w hSw; (try dsimp only at hSw); go_simp⟩) (by assumption) ?_
        simp only [Act.put, List.setIfInBounds_toArray, List.set_cons_zero, List.set_cons_succ]
        refine wpAnyH_take (i := 12) (v := .pointer (some ⟨gu, k * 9, none⟩)) rfl (by kernel_rfl) (by kernel_rfl) (by kernel_rfl) (fun _ _ _ h => h) (Or.inl ⟨by kernel_rfl, by intro w hSw; (try dsimp only at hSw); go_simp⟩) (by assumption) ?_
        simp only [Act.put, List.setIfInBounds_toArray, List.set_cons_zero, List.set_cons_succ]
        refine wpAnyH_take (i := 13) (v := .agg #[.int .i64 (k : Int), .int .i64 (dk : Int), .slice ak nk ck]) rfl (by kernel_rfl) (by kernel_rfl) (by kernel_rfl) (fun _ _ _ h => h) (Or.inl ⟨by kernel_rfl, by intro w hSw; (try dsimp only at hSw); obtain ⟨s0, s1, s2, s3, s4, s5⟩ := hSw; go_simp⟩) (by assumption) ?_
        simp only [Act.put, List.setIfInBounds_toArray, List.set_cons_zero, List.set_cons_succ]
        refine wpAnyH_ready (rs := [14]) (by kernel_rfl) (by simp) ?_
        refine AllReadyH.cons rfl (fun K hK => ?_) AllReadyH.nil
        go_simp
        go_at_call 37
        refine (HIB.out _).mono ?_
        rintro e w3 ⟨rfl, hb3⟩
        have HB3 := hid (HBd.out.trans (hb3.mono HBd.out.size))
        have HLD3 := hid (HCL.out _ HB3.out)
        clear hb3
        go_wp2_with fail
        refine hK.out _ _ HLD3.out (fun hHeld => ?_)
        clear hK K
        try simp only [Act.put, List.setIfInBounds_toArray, List.set_cons_zero, List.set_cons_succ]
        refine wpAnyH_take (i := 15) (v := .bool true) rfl (by kernel_rfl) (by kernel_rfl) (by kernel_rfl) (fun _ _ _ h => h) (Or.inl ⟨by kernel_rfl, by intro w hSw; (try dsimp only at hSw); go_simp⟩) (by assumption) ?_
        simp only [Act.put, List.setIfInBounds_toArray, List.set_cons_zero, List.set_cons_succ]
        refine wpAnyH_done (by kernel_rfl) ?_ _
        clear hHeld
        go_wp2
        exact ⟨⟨j + 1, by simp, by omega, by omega, HX, HB3⟩, by simp [intOf]; omega⟩
      · have HX : Hid (en = j) := hid (by rw [HE.out, HUE.out hd]; rfl)
        rw [show decide (dk < dj) = false by simp [hd]] at HIB
        clear hd HUS HUE HE
        have q3 : (k : Int) ≤ (j : Int) := by omega
        have q4 : (j : Int) ≤ (cu : Int) := by omega
        have q5 : ¬ k = cu := by omega
        go_wp2
        refine wp_region_held_drew (S := fun wx => wx.cell? ⟨gu, k * 9, none⟩ = some (.int .i64 (k : Int)) ∧ wx.cell? ⟨gu, k * 9 + 1, none⟩ = some (.int .i64 (dk : Int)) ∧ wx.cell? ⟨gu, k * 9 + 2, none⟩ = some (.slice ak nk ck) ∧ wx.cell? ⟨gu, j * 9, none⟩ = some (.int .i64 (j : Int)) ∧ wx.cell? ⟨gu, j * 9 + 1, none⟩ = some (.int .i64 (dj : Int)) ∧ wx.cell? ⟨gu, j * 9 + 2, none⟩ = some (.slice aj nj cj)) (by kernel_rfl) HLD.out (fun hHeld => ?_)
        refine wpAnyH_take (i := 0) (v := .slice (some ⟨gu, 0, none⟩) ss.length cu) rfl (by kernel_rfl) (by kernel_rfl) (by kernel_rfl) (fun _ _ _ h => h) (Or.inl ⟨by kernel_rfl, by intro w hSw; (try dsimp only at hSw); go_simp⟩) (by assumption) ?_
        simp only [Act.put, List.setIfInBounds_toArray, List.set_cons_zero, List.set_cons_succ]
        refine wpAnyH_take (i := 1) (v := .int .i64 (j : Int)) rfl (by kernel_rfl) (by kernel_rfl) (by kernel_rfl) (fun _ _ _ h => h) (Or.inl ⟨by kernel_rfl, by intro w hSw; (try dsimp only at hSw); go_simp⟩) (by assumption) ?_
        simp only [Act.put, List.setIfInBounds_toArray, List.set_cons_zero, List.set_cons_succ]
        refine wpAnyH_ready (rs := [2]) (by kernel_rfl) (by simp) ?_
        refine AllReadyH.cons rfl (fun K hK => ?_) AllReadyH.nil
        go_simp
        go_at_call 19
        refine (HHS.out _).mono ?_
        rintro e w2 ⟨rfl, hw2⟩
        replace hw2 := hw2.symm
        subst hw2
        go_wp2_with fail
        refine hK.out _ _ HLD.out (fun hHeld => ?_)
        clear hK K
        try simp only [Act.put, List.setIfInBounds_toArray, List.set_cons_zero, List.set_cons_succ]
        refine wpAnyH_take (i := 3) (v := .bool true) rfl (by kernel_rfl) (by kernel_rfl) (by kernel_rfl) (fun _ _ _ h => h) (Or.inl ⟨by kernel_rfl, by intro w hSw; (try dsimp only at hSw); go_simp⟩) (by assumption) ?_
        simp only [Act.put, List.setIfInBounds_toArray, List.set_cons_zero, List.set_cons_succ]
        refine wpAnyH_take (i := 4) (v := .slice (some ⟨gu, 0, none⟩) ss.length cu) rfl (by kernel_rfl) (by kernel_rfl) (by kernel_rfl) (fun _ _ _ h => h) (Or.inl ⟨by kernel_rfl, by intro w hSw; (try dsimp only at hSw); go_simp⟩) (by assumption) ?_
        simp only [Act.put, List.setIfInBounds_toArray, List.set_cons_zero, List.set_cons_succ]
        refine wpAnyH_take (i := 5) (v := .int .i64 (j : Int)) rfl (by kernel_rfl) (by kernel_rfl) (by kernel_rfl) (fun _ _ _ h => h) (Or.inl ⟨by kernel_rfl, by intro w hSw; (try dsimp only at hSw); go_simp⟩) (by assumption) ?_
        simp only [Act.put, List.setIfInBounds_toArray, List.set_cons_zero, List.set_cons_succ]
        refine wpAnyH_take (i := 6) (v := .pointer (some ⟨gu, j * 9, none⟩)) rfl (by kernel_rfl) (by kernel_rfl) (by kernel_rfl) (fun _ _ _ h => h) (Or.inl ⟨by kernel_rfl, by intro w hSw; (try dsimp only at hSw); go_simp⟩) (by assumption) ?_
        simp only [Act.put, List.setIfInBounds_toArray, List.set_cons_zero, List.set_cons_succ]
        refine wpAnyH_take (i := 7) (v := .pointer (some ⟨gu, j * 9, none⟩)) rfl (by kernel_rfl) (by kernel_rfl) (by kernel_rfl) (fun _ _ _ h => h) (Or.inl ⟨by kernel_rfl, by intro w hSw; (try dsimp only at hSw); go_simp⟩) (by assumption) ?_
        simp only [Act.put, List.setIfInBounds_toArray, List.set_cons_zero, List.set_cons_succ]
        refine wpAnyH_take (i := 8) (v := .agg #[.int .i64 (j : Int), .int .i64 (dj : Int), .slice aj nj cj]) rfl (by kernel_rfl) (by kernel_rfl) (by kernel_rfl) (fun _ _ _ h => h) (Or.inl ⟨by kernel_rfl, by intro w hSw; (try dsimp only at hSw); obtain ⟨s0, s1, s2, s3, s4, s5⟩ := hSw; go_simp⟩) (by assumption) ?_
        simp only [Act.put, List.setIfInBounds_toArray, List.set_cons_zero, List.set_cons_succ]
        refine wpAnyH_take (i := 9) (v := .slice (some ⟨gu, 0, none⟩) ss.length cu) rfl (by kernel_rfl) (by kernel_rfl) (by kernel_rfl) (fun _ _ _ h => h) (Or.inl ⟨by kernel_rfl, by intro w hSw; (try dsimp only at hSw); go_simp⟩) (by assumption) ?_
        simp only [Act.put, List.setIfInBounds_toArray, List.set_cons_zero, List.set_cons_succ]
        refine wpAnyH_take (i := 10) (v := .int .i64 (k : Int)) rfl (by kernel_rfl) (by kernel_rfl) (by kernel_rfl) (fun _ _ _ h => h) (Or.inl ⟨by kernel_rfl, by intro w hSw; (try dsimp only at hSw); go_simp⟩) (by assumption) ?_
        simp only [Act.put, List.setIfInBounds_toArray, List.set_cons_zero, List.set_cons_succ]
        refine wpAnyH_take (i := 11) (v := .pointer (some ⟨gu, k * 9, none⟩)) rfl (by kernel_rfl) (by kernel_rfl) (by kernel_rfl) (fun _ _ _ h => h) (Or.inl ⟨by kernel_rfl, by intro w hSw; (try dsimp only at hSw); go_simp⟩) (by assumption) ?_
        simp only [Act.put, List.setIfInBounds_toArray, List.set_cons_zero, List.set_cons_succ]
        refine wpAnyH_take (i := 12) (v := .pointer (some ⟨gu, k * 9, none⟩)) rfl (by kernel_rfl) (by kernel_rfl) (by kernel_rfl) (fun _ _ _ h => h) (Or.inl ⟨by kernel_rfl, by intro w hSw; (try dsimp only at hSw); go_simp⟩) (by assumption) ?_
        simp only [Act.put, List.setIfInBounds_toArray, List.set_cons_zero, List.set_cons_succ]
        refine wpAnyH_take (i := 13) (v := .agg #[.int .i64 (k : Int), .int .i64 (dk : Int), .slice ak nk ck]) rfl (by kernel_rfl) (by kernel_rfl) (by kernel_rfl) (fun _ _ _ h => h) (Or.inl ⟨by kernel_rfl, by intro w hSw; (try dsimp only at hSw); obtain ⟨s0, s1, s2, s3, s4, s5⟩ := hSw; go_simp⟩) (by assumption) ?_
        simp only [Act.put, List.setIfInBounds_toArray, List.set_cons_zero, List.set_cons_succ]
        refine wpAnyH_ready (rs := [14]) (by kernel_rfl) (by simp) ?_
        refine AllReadyH.cons rfl (fun K hK => ?_) AllReadyH.nil
        go_simp
        go_at_call 37
        refine (HIB.out _).mono ?_
        rintro e w3 ⟨rfl, hb3⟩
        have HB3 := hid (HBd.out.trans (hb3.mono HBd.out.size))
        have HLD3 := hid (HCL.out _ HB3.out)
        clear hb3
        go_wp2_with fail
        refine hK.out _ _ HLD3.out (fun hHeld => ?_)
        clear hK K
        try simp only [Act.put, List.setIfInBounds_toArray, List.set_cons_zero, List.set_cons_succ]
        refine wpAnyH_take (i := 15) (v := .bool false) rfl (by kernel_rfl) (by kernel_rfl) (by kernel_rfl) (fun _ _ _ h => h) (Or.inl ⟨by kernel_rfl, by intro w hSw; (try dsimp only at hSw); go_simp⟩) (by assumption) ?_
        simp only [Act.put, List.setIfInBounds_toArray, List.set_cons_zero, List.set_cons_succ]
        refine wpAnyH_done (by kernel_rfl) ?_ _
        clear hHeld
        go_wp2
        go_ret
        exact ⟨by rw [HX.out]; simp, HB3.out⟩
    · have HHS : Hid (∀ w', Calls Tryd.prog 19 #[.slice (some ⟨gu, 0, none⟩) ss.length cu, .int .i64 (j : Int)] w' fun e w'' => e = .returned (.bool false) ∧ w'' = w') := hid (fun w' => by
        have := hasStep (some ⟨gu, 0, none⟩) ss.length cu (j : Int) w' (by omega)
        rwa [show (decide ((0 : Int) ≤ (j : Int)) && decide ((j : Int) < (ss.length : Int))) = false by simp; omega] at this)
      have HX : Hid (en = j) := hid (by rw [HE.out, u_end (by omega)]; rfl)
      have q3 : (k : Int) ≤ (j : Int) := by omega
      have q4 : (j : Int) ≤ (cu : Int) := by omega
      have q5 : ¬ k = cu := by omega
      clear HE
      go_wp2
      try simp only [List.append_eq, List.cons_append, List.nil_append]
      go_quiet ((go_at_call 19; exact Calls.quiet_of_same (HHS.out _)))
      go_wp2
      go_ret
      exact ⟨by rw [HX.out]; simp, Ints.below_drewN HB.out nq⟩
end Ku
end Go.Proofs.YtbojdlkibffcjaaDoor
