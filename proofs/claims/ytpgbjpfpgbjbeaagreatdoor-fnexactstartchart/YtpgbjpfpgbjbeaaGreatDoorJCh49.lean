/- Laid together: KsG, KwD. -/
import Derived.Test.YtpgbjpfpgbjbeaaGreatDoorJCh48
import Derived.BigQuiet
import Derived.Test.YtpgbjpfpgbjbeaaGreatDoorJCh47
import Derived.Test.YtpgbjpfpgbjbeaaGreatDoorJCh45
/- The specification's ChartFault. -/
namespace Go.Proofs.YtpgbjpfpgbjbeaaGreatDoor
open Go.RowKit Go.Deep
set_option linter.unusedVariables false
set_option linter.unusedSimpArgs false
namespace Ks
open Ex (inR evalCode evalVal vFault hid specIn)
open St (StepD)
open Ch (RunD)
open Pf
open Kc (fA fD fA_eq fD_eq wrongP within zeros fitsP chartC numC stateC c_proc c_num c_form c_ok num_state num_len num_range num_ok st_status st_now st_vars within_take within_bad zeros_take)
def noWrong (ss : List StepD) (r : RunD) (n : Nat) : Bool := (List.range n).all fun k => !wrongP ss (fA r) (fD r) k
theorem noWrong_succ (ss : List StepD) (r : RunD) (n : Nat) : noWrong ss r (n + 1) = (noWrong ss r n && !wrongP ss (fA r) (fD r) n) := by
  unfold noWrong
  rw [List.range_succ, List.all_append]
  simp
theorem noWrong_no {ss : List StepD} {r : RunD} {n k : Nat} (hk : k < n) (h : wrongP ss (fA r) (fD r) k = true) : noWrong ss r n = false := by
  unfold noWrong
  rw [List.all_eq_false]
  exact ⟨k, List.mem_range.2 hk, by simp [h]⟩
theorem fits_live {ss : List StepD} {r : RunD} (h : r.status = 1) : fitsP ss r = ((fA r 0 == 1) && noWrong ss r ss.length) := by unfold fitsP; rw [if_neg (by simp [h])]; rfl
theorem fits_not {ss : List StepD} {r : RunD} (h : r.status ≠ 1) : fitsP ss r = (zeros r.marks && zeros r.dues) := by unfold fitsP; rw [if_pos h]
set_option maxRecDepth 100000 in
set_option maxHeartbeats 32000000 in
theorem specChartFault (B : Nat) (ss : List StepD) (v : Value) (R : Nat) (r : RunD) (v1 v2 v3 : Value) (w : World) (hsm : St.Small 1048576 ss) (hs : Ch.Small 1048576 r) (ha : St.At w B v ss) (hc : CP w R v1 v2 v3 r) :
    Calls Tryz.prog 47 #[v, .pointer (some ⟨R, 0, none⟩)] w fun e w' => e = .returned (.int .i64 (chartC ss r)) ∧ Below w.heap.size w w' := by
  obtain ⟨a, cap, rfl⟩ := ha.slice
  obtain ⟨a1, c1, rfl⟩ := hc.row.vars.slice
  obtain ⟨a2, c2, rfl⟩ := hc.row.marks.slice
  obtain ⟨a3, c3, rfl⟩ := hc.row.dues.slice
  have s1 := hs.vars
  have s2 := hs.marks
  have s3 := hs.dues
  have HF := hid (specFault B ss _ w hsm ha)
  have HA := hid ha
  have HC := hid hc
  clear ha hc hsm hs
  go_enter Tryz.func47, Tryz.ntmps47
  go_wp2_with fail
  refine HF.out.mono ?_
  rintro e w1 ⟨rfl, hb1⟩
  have HB1 := hid hb1
  have hC1 := HC.out.below hb1
  have m0 : w1.cell? ⟨R, 0, none⟩ = some (.int .i64 r.status) := Ch.blk_cell hC1.blk 0
  have m1 : w1.cell? ⟨R, 1, none⟩ = some (.int .i64 r.now) := Ch.blk_cell hC1.blk 1
  have m2 : w1.cell? ⟨R, 2, none⟩ = some (.slice a1 r.vars.length c1) := Ch.blk_cell hC1.blk 2
  have m3 : w1.cell? ⟨R, 3, none⟩ = some (.slice a2 r.marks.length c2) := Ch.blk_cell hC1.blk 3
  have m4 : w1.cell? ⟨R, 4, none⟩ = some (.slice a3 r.dues.length c3) := Ch.blk_cell hC1.blk 4
  have HI := hid (fun w' => specIn r.status 1 3 w')
  have HT := hid (fun w' => specTime r.now w')
  have HVF := hid (Ex.specVars 0 r.vars _ w1 (by omega) hC1.row.vars)
  have HC1 := hid hC1
  have HA1 := hid (HA.out.below hb1)
  clear HF hb1 hC1 HC HA
  rcases (Classical.em (pFault ss = 0)).symm with hf | hf
  · have b0 : (pFault ss != 0) = true := bne_iff_ne.2 hf
    have HX := hid (c_proc (r := r) hf)
    clear hf
    go_wp2
    go_ret
    exact ⟨by rw [HX.out]; rfl, HB1.out⟩
  have b0 : (pFault ss != 0) = false := by simp [hf]
  have HP := hid hf
  have hl : ss.length ≤ 24 := by have := (of_p hf).1; omega
  have hpos : 0 < ss.length := by have := (of_p hf).1; omega
  clear hf
  cases h1 : inR r.status 1 3
  · have HX : Hid (chartC ss r = 3) := hid (by have e := st_status (now := r.now) (vars := r.vars) h1; rw [c_num HP.out (by rw [num_state (by rw [e]; decide), e]; decide), num_state (by rw [e]; decide), e])
    rw [h1] at HI
    clear h1
    go_wp2_with (go_at_call 48; refine (HI.out _).mono ?_; rintro e w2 ⟨rfl, hw2⟩; replace hw2 := hw2.symm; subst hw2)
    go_ret
    exact ⟨by rw [HX.out]; rfl, HB1.out⟩
  rw [h1] at HI
  cases h2 : inR r.now 0 1000000
  · have HX : Hid (chartC ss r = 3) := hid (by have e := st_now (vars := r.vars) h1 h2; rw [c_num HP.out (by rw [num_state (by rw [e]; decide), e]; decide), num_state (by rw [e]; decide), e])
    rw [h2] at HT
    clear h1 h2
    go_wp2_with (first | (go_at_call 48; refine (HI.out _).mono ?_; rintro e w2 ⟨rfl, hw2⟩; replace hw2 := hw2.symm; subst hw2) | (go_at_call 33; refine (HT.out _).mono ?_; rintro e w2 ⟨rfl, hw2⟩; replace hw2 := hw2.symm; subst hw2))
    go_ret
    exact ⟨by rw [HX.out]; rfl, HB1.out⟩
  rw [h2] at HT
  have HSV := hid (st_vars (vars := r.vars) h1 h2)
  have hnow := Ex.inR_iff.1 h2
  clear h1 h2
  rcases (Classical.em (vFault r.vars = 0)).symm with h3 | h3
  · have b3 : (vFault r.vars != 0) = true := bne_iff_ne.2 h3
    have hne : stateC r.status r.now r.vars ≠ 0 := by rw [HSV.out]; exact h3
    have HX : Hid (chartC ss r = vFault r.vars) := hid (by rw [c_num HP.out (by rw [num_state hne]; exact hne), num_state hne, HSV.out])
    clear hne
    clear h3
    go_wp2_with (first | (go_at_call 48; refine (HI.out _).mono ?_; rintro e w2 ⟨rfl, hw2⟩; replace hw2 := hw2.symm; subst hw2) | (go_at_call 33; refine (HT.out _).mono ?_; rintro e w2 ⟨rfl, hw2⟩; replace hw2 := hw2.symm; subst hw2) | (go_at_call 32; refine HVF.out.mono ?_; rintro e w2 ⟨rfl, hw2⟩; replace hw2 := hw2.symm; subst hw2))
    go_ret
    exact ⟨by rw [HX.out]; rfl, HB1.out⟩
  have b3 : (vFault r.vars != 0) = false := by simp [h3]
  have HST : Hid (stateC r.status r.now r.vars = 0) := hid (by rw [HSV.out]; exact h3)
  clear h3 HSV
  rcases (Classical.em (r.marks.length = ss.length ∧ r.dues.length = ss.length)).symm with h4 | h4
  · have HX : Hid (chartC ss r = 2) := hid (by have e := num_len HST.out h4; rw [c_num HP.out (by rw [e]; decide), e])
    by_cases h5 : r.marks.length = ss.length
    · have b4 : ((r.marks.length : Int) != (ss.length : Int)) = false := by simp [h5]
      have b5 : ((r.dues.length : Int) != (ss.length : Int)) = true := bne_iff_ne.2 (fun e => h4 ⟨h5, by omega⟩)
      clear h4 h5
      go_wp2_with (first | (go_at_call 48; refine (HI.out _).mono ?_; rintro e w2 ⟨rfl, hw2⟩; replace hw2 := hw2.symm; subst hw2) | (go_at_call 33; refine (HT.out _).mono ?_; rintro e w2 ⟨rfl, hw2⟩; replace hw2 := hw2.symm; subst hw2) | (go_at_call 32; refine HVF.out.mono ?_; rintro e w2 ⟨rfl, hw2⟩; replace hw2 := hw2.symm; subst hw2))
      go_ret
      exact ⟨by rw [HX.out]; rfl, HB1.out⟩
    · have b4 : ((r.marks.length : Int) != (ss.length : Int)) = true := bne_iff_ne.2 (fun e => h5 (by omega))
      clear h4 h5
      go_wp2_with (first | (go_at_call 48; refine (HI.out _).mono ?_; rintro e w2 ⟨rfl, hw2⟩; replace hw2 := hw2.symm; subst hw2) | (go_at_call 33; refine (HT.out _).mono ?_; rintro e w2 ⟨rfl, hw2⟩; replace hw2 := hw2.symm; subst hw2) | (go_at_call 32; refine HVF.out.mono ?_; rintro e w2 ⟨rfl, hw2⟩; replace hw2 := hw2.symm; subst hw2))
      go_ret
      exact ⟨by rw [HX.out]; rfl, HB1.out⟩
  have b4 : ((r.marks.length : Int) != (ss.length : Int)) = false := by simp [h4.1]
  have b5 : ((r.dues.length : Int) != (ss.length : Int)) = false := by simp [h4.2]
  have HLM := hid h4.1
  have HLD := hid h4.2
  clear h4
  have HNR : Hid ((within r.marks 2 && within r.dues (r.now + 99)) = false → chartC ss r = 3) := hid (fun h => by have e := num_range HST.out HLM.out HLD.out h; rw [c_num HP.out (by rw [e]; decide), e])
  have HNK : Hid (within r.marks 2 = true → within r.dues (r.now + 99) = true → numC ss.length r = 0) := hid (fun h h' => num_ok HST.out HLM.out HLD.out h h')
  go_wp2_with (first | (go_at_call 48; refine (HI.out _).mono ?_; rintro e w2 ⟨rfl, hw2⟩; replace hw2 := hw2.symm; subst hw2) | (go_at_call 33; refine (HT.out _).mono ?_; rintro e w2 ⟨rfl, hw2⟩; replace hw2 := hw2.symm; subst hw2) | (go_at_call 32; refine HVF.out.mono ?_; rintro e w2 ⟨rfl, hw2⟩; replace hw2 := hw2.symm; subst hw2))
  clear HI HT HVF b0 b3 b4 b5 m0 m1 m2 m3 m4
  go_loopw [7, 8] (fun y z wr => ∃ (i : Nat) (sm : Bool), z = .int .i64 i ∧ y = .bool sm ∧ i ≤ ss.length ∧ Hid (within (r.marks.take i) 2 = true ∧ within (r.dues.take i) (r.now + 99) = true ∧ sm = !(zeros (r.marks.take i) && zeros (r.dues.take i))) ∧ Hid (Below w1.heap.size w1 wr)) (fun _ z _ => ss.length - (intOf z).toNat)
  case atStart => exact ⟨0, false, rfl, rfl, Nat.zero_le _, hid ⟨rfl, rfl, rfl⟩, hid (Below.refl _ _)⟩
  case round =>
    obtain ⟨i, sm, rfl, rfl, hi, HM, HBR⟩ := hrel
    have hC := HC1.out.below HBR.out
    have m0 : wr.cell? ⟨R, 0, none⟩ = some (.int .i64 r.status) := Ch.blk_cell hC.blk 0
    have m1 : wr.cell? ⟨R, 1, none⟩ = some (.int .i64 r.now) := Ch.blk_cell hC.blk 1
    have m3 : wr.cell? ⟨R, 3, none⟩ = some (.slice a2 r.marks.length c2) := Ch.blk_cell hC.blk 3
    have m4 : wr.cell? ⟨R, 4, none⟩ = some (.slice a3 r.dues.length c3) := Ch.blk_cell hC.blk 4
    have HBW := hid (HB1.out.trans (HBR.out.mono HB1.out.size))
    obtain ⟨g2, o2, rfl, hac⟩ := nu_cell hC.row.marks (by rw [HLM.out]; omega)
    obtain ⟨g3, o3, rfl, hdc⟩ := nu_cell hC.row.dues (by rw [HLD.out]; omega)
    by_cases hlt : i < ss.length
    · have q1 : (i : Int) < (ss.length : Int) := by omega
      have him : i < r.marks.length := by rw [HLM.out]; exact hlt
      have hid' : i < r.dues.length := by rw [HLD.out]; exact hlt
      have q2 : (i : Int) < (r.marks.length : Int) := by omega
      have q3 : (i : Int) < (r.dues.length : Int) := by omega
      have n2 := hac _ him
      have n3 := hdc _ hid'
      have HT1 := hid (within_take (m := 2) him)
      have HT2 := hid (within_take (m := r.now + 99) hid')
      have HZ1 := hid (zeros_take him)
      have HZ2 := hid (zeros_take hid')
      have HW1 := hid (within_bad (m := 2) him)
      have HW2 := hid (within_bad (m := r.now + 99) hid')
      clear hac hdc hC
      generalize r.marks[i] = am at *
      generalize r.dues[i] = ad at *
      clear him hid'
      cases hA : inR am 0 2
      · have HX : Hid (chartC ss r = 3) := hid (HNR.out (by rw [HW1.out hA]; rfl))
        clear HT1 HT2 HZ1 HZ2 HW1 HW2 HM
        go_wp2
        try simp only [List.append_eq, List.cons_append, List.nil_append]
        go_quiet ((go_at_call 48; exact Calls.quiet_of_same (specIn _ _ _ _)))
        go_wp2
        go_ret
        exact ⟨by rw [HX.out]; rfl, Ints.below_drewN HBW.out nq⟩
      · rw [hA] at HT1
        cases hD : inR ad 0 (r.now + 99)
        · have HX : Hid (chartC ss r = 3) := hid (HNR.out (by rw [HW2.out hD, Bool.and_false]))
          clear HT1 HT2 HZ1 HZ2 HW1 HW2 HM
          go_wp2
          try simp only [List.append_eq, List.cons_append, List.nil_append]
          go_quiet ((go_at_call 48; exact Calls.quiet_of_same (specIn _ _ _ _)))
          go_wp2
          go_ret
          exact ⟨by rw [HX.out]; rfl, Ints.below_drewN HBW.out nq⟩
        · rw [hD] at HT2
          have HX : Hid (within (r.marks.take (i + 1)) 2 = true ∧ within (r.dues.take (i + 1)) (r.now + 99) = true ∧ (sm || (am != 0) || (ad != 0)) = !(zeros (r.marks.take (i + 1)) && zeros (r.dues.take (i + 1)))) := hid (by
            obtain ⟨x1, x2, x3⟩ := HM.out
            refine ⟨by rw [HT1.out, x1]; rfl, by rw [HT2.out, x2]; rfl, ?_⟩
            rw [HZ1.out, HZ2.out, x3]
            have e1 : (am != 0) = !(am == 0) := rfl
            have e2 : (ad != 0) = !(ad == 0) := rfl
            rw [e1, e2]
            generalize (am == 0) = p1
            generalize (ad == 0) = p2
            generalize zeros (r.marks.take i) = p3
            generalize zeros (r.dues.take i) = p4
            cases p1 <;> cases p2 <;> cases p3 <;> cases p4 <;> rfl)
          clear HT1 HT2 HZ1 HZ2 HW1 HW2 HM
          cases sm
          · cases hx1 : (am != 0)
            · rw [hx1] at HX
              go_wp2
              try simp only [List.append_eq, List.cons_append, List.nil_append]
              go_quiet ((go_at_call 48; exact Calls.quiet_of_same (specIn _ _ _ _)))
              go_wp2
              exact ⟨⟨i + 1, (ad != 0), by simp, rfl, by omega, HX, hid (Ints.below_drewN HBR.out nq)⟩, by simp [intOf]; omega⟩
            · rw [hx1] at HX
              go_wp2
              try simp only [List.append_eq, List.cons_append, List.nil_append]
              go_quiet ((go_at_call 48; exact Calls.quiet_of_same (specIn _ _ _ _)))
              go_wp2
              exact ⟨⟨i + 1, true, by simp, rfl, by omega, HX, hid (Ints.below_drewN HBR.out nq)⟩, by simp [intOf]; omega⟩
          · go_wp2
            try simp only [List.append_eq, List.cons_append, List.nil_append]
            go_quiet ((go_at_call 48; exact Calls.quiet_of_same (specIn _ _ _ _)))
            go_wp2
            exact ⟨⟨i + 1, true, by simp, rfl, by omega, HX, hid (Ints.below_drewN HBR.out nq)⟩, by simp [intOf]; omega⟩
    · have hie : i = ss.length := by omega
      have HM2 : Hid (within r.marks 2 = true ∧ within r.dues (r.now + 99) = true ∧ sm = !(zeros r.marks && zeros r.dues)) := hid (by
        have := HM.out
        rwa [List.take_of_length_le (by rw [HLM.out]; omega), List.take_of_length_le (by rw [HLD.out]; omega)] at this)
      have HNZ := hid (HNK.out HM2.out.1 HM2.out.2.1)
      have q1 : ¬ (i : Int) < (ss.length : Int) := by omega
      clear HM hie HNR HNK
      rcases (Classical.em (r.status = 1)).symm with hst | hst
      · have b6 : (r.status != 1) = true := bne_iff_ne.2 hst
        have HFN := hid (fits_not (ss := ss) hst)
        clear hst hac hdc hC
        cases sm
        · have HX : Hid (chartC ss r = 0) := hid (c_ok HP.out HNZ.out (by rw [HFN.out]; have := HM2.out.2.2; revert this; cases zeros r.marks <;> cases zeros r.dues <;> simp))
          clear HM2 HFN
          go_wp2
          go_ret
          exact ⟨by rw [HX.out]; rfl, HBW.out⟩
        · have HX : Hid (chartC ss r = 1) := hid (c_form HP.out HNZ.out (by rw [HFN.out]; have := HM2.out.2.2; revert this; cases zeros r.marks <;> cases zeros r.dues <;> simp))
          clear HM2 HFN
          go_wp2
          go_ret
          exact ⟨by rw [HX.out]; rfl, HBW.out⟩
      · have b6 : (r.status != 1) = false := by simp [hst]
        have HFL := hid (fits_live (ss := ss) hst)
        have h0m : 0 < r.marks.length := by rw [HLM.out]; exact hpos
        have n0 := hac 0 h0m
        rw [← fA_eq h0m, Nat.add_zero] at n0
        have q5 : (0 : Int) < (r.marks.length : Int) := by omega
        clear hst hac hdc hC h0m HM2
        rcases (Classical.em (fA r 0 = 1)).symm with h0 | h0
        · have b7 : (fA r 0 != 1) = true := bne_iff_ne.2 h0
          have HX : Hid (chartC ss r = 1) := hid (c_form HP.out HNZ.out (by rw [HFL.out, beq_eq_false_iff_ne.2 h0]; rfl))
          clear h0
          go_wp2
          go_ret
          exact ⟨by rw [HX.out]; rfl, HBW.out⟩
        · have b7 : (fA r 0 != 1) = false := by simp [h0]
          have HFL2 : Hid (fitsP ss r = noWrong ss r ss.length) := hid (by rw [HFL.out, h0]; rfl)
          clear h0 HFL
          go_wp2
          clear m0 m1 m3 m4 n0 b6 b7 q1 q5
          have HC2 := hid (HC1.out.below HBR.out)
          have HA2 := hid (HA1.out.below HBR.out)
          obtain ⟨w3, hw3⟩ : ∃ w3, w3 = wr := ⟨_, rfl⟩
          rw [← hw3] at HC2 HA2 HBW
          have HE3 := hid hw3
          clear hw3 HBR
          go_loopw [9] (fun z wq => ∃ k : Nat, z = .int .i64 k ∧ k ≤ ss.length ∧ Hid (noWrong ss r k = true) ∧ Hid (Below w3.heap.size w3 wq)) (fun z _ => ss.length - (intOf z).toNat)
          case atStart => exact ⟨0, rfl, Nat.zero_le _, hid rfl, hid (by rw [HE3.out]; exact Below.refl _ _)⟩
          case round =>
            obtain ⟨k, rfl, hk, HNW, HBQ⟩ := hrel
            have HBX := hid (HBW.out.trans (HBQ.out.mono HBW.out.size))
            by_cases hlt : k < ss.length
            · have q1 : (k : Int) < (ss.length : Int) := by omega
              have HWR := hid (specWrong B ss _ k R r _ _ _ _ HP.out hlt (HA2.out.below HBQ.out) (HC2.out.below HBQ.out) HLM.out HLD.out)
              have HNX := hid (noWrong_succ ss r k)
              have HNO := hid (fun h => noWrong_no (ss := ss) (r := r) hlt h)
              generalize wrongP ss (fA r) (fD r) k = wp at *
              go_wp2_with fail
              refine HWR.out.mono ?_
              rintro e w4 ⟨rfl, hb4⟩
              have HB4 := hid (HBQ.out.trans (hb4.mono HBQ.out.size))
              have HB5 := hid (HBX.out.trans (hb4.mono HBX.out.size))
              clear hb4 HWR
              cases wp
              · have HX : Hid (noWrong ss r (k + 1) = true) := hid (by rw [HNX.out, HNW.out]; rfl)
                clear HNX HNO HNW
                go_wp2
                exact ⟨⟨k + 1, by simp, by omega, HX, HB4⟩, by simp [intOf]; omega⟩
              · have HX : Hid (chartC ss r = 1) := hid (c_form HP.out HNZ.out (by rw [HFL2.out, HNO.out rfl]))
                clear HNX HNO HNW
                go_wp2
                go_ret
                exact ⟨by rw [HX.out]; rfl, HB5.out⟩
            · have hke : k = ss.length := by omega
              have HX : Hid (chartC ss r = 0) := hid (c_ok HP.out HNZ.out (by rw [HFL2.out, ← hke]; exact HNW.out))
              have q1 : ¬ (k : Int) < (ss.length : Int) := by omega
              clear HNW hke
              go_wp2
              go_ret
              exact ⟨by rw [HX.out]; rfl, HBX.out⟩
end Ks
end Go.Proofs.YtpgbjpfpgbjbeaaGreatDoor
/- The specification's answers of chapter 9: one with a code, and the copy of a chart. -/
namespace Go.Proofs.YtpgbjpfpgbjbeaaGreatDoor
open Go.RowKit Go.Deep
set_option linter.unusedVariables false
set_option linter.unusedSimpArgs false
namespace Kw
open Ex (inR evalCode evalVal vFault hid)
open St (StepD)
open Ch (RunD)
open Pf
open Kc (CS upd zer endOf stopped idle kid go mE mO Ok chartC csOf fA fD)
open Kt (Row Pos SAt Ride TPost optI specGo specIdle)
open Kv
/-- An answer that may be read. -/
def SPost (cc : Int) (r : RunD) (w : World) (e : Ending) (w' : World) : Prop := ∃ v1 v2 v3, e = .returned (.agg #[.int .i64 cc, .int .i64 r.status, .int .i64 r.now, v1, v2, v3]) ∧ Ch.At w' w.heap.size v1 v2 v3 r ∧ Below w.heap.size w w'
theorem at_nil (w : World) (B : Nat) : Nu.At w B (.slice none 0 0) [] := ⟨none, 0, rfl, Nat.le_refl _, by unfold maxLen; omega, .inl rfl⟩
theorem zero_at (w : World) (B : Nat) : Ch.At w B (.slice none 0 0) (.slice none 0 0) (.slice none 0 0) zeroR := ⟨at_nil w B, at_nil w B, at_nil w B⟩
set_option maxRecDepth 100000 in
set_option maxHeartbeats 2000000 in
theorem specBad (k : Int) (w : World) : Calls Tryz.prog 31 #[.int .i64 k] w fun e w' => e = .returned (.agg #[.int .i64 k, .int .i64 0, .int .i64 0, .slice none 0 0, .slice none 0 0, .slice none 0 0]) ∧ Below w.heap.size w w' := by
  have HB : Hid (Below w.heap.size w (w.alloc (.cells #[.int .i64 k, .int .i64 0, .int .i64 0, .slice none 0 0, .slice none 0 0, .slice none 0 0] 28))) := hid ((Below.refl _ w).alloc (Nat.le_refl _) _)
  have HK : Hid ((w.alloc (.cells #[.int .i64 k, .int .i64 0, .int .i64 0, .slice none 0 0, .slice none 0 0, .slice none 0 0] 28)).heap[w.heap.size]? = some (.cells #[.int .i64 k, .int .i64 0, .int .i64 0, .slice none 0 0, .slice none 0 0, .slice none 0 0] 28)) := hid (Ch.new_blk _ _)
  go_enter Tryz.func31, Tryz.ntmps31
  go_wp2
  refine bodyPost_ret (results_cell_row Tryz.results31 _ _ w.heap.size 28 #[.int .i64 k, .int .i64 0, .int .i64 0, .slice none 0 0, .slice none 0 0, .slice none 0 0] (0, 0) _ rfl HK.out Tryz.underlying28 rfl info6) rfl ⟨rfl, HB.out⟩
theorem info5 : (Tryz.prog.info? 26).map (·.size) = some 5 := by kernel_rfl
/-- What a copy is. -/
def CopyP (r : RunD) (w : World) (e : Ending) (w' : World) : Prop := ∃ b1 b2 b3 d1 d2 d3, e = .returned (.agg #[.int .i64 r.status, .int .i64 r.now, .slice (some ⟨b1, 0, none⟩) r.vars.length d1, .slice (some ⟨b2, 0, none⟩) r.marks.length d2, .slice (some ⟨b3, 0, none⟩) r.dues.length d3]) ∧ w.heap.size ≤ b1 ∧ b1 < b2 ∧ b2 < b3 ∧ Row w' b1 r.vars.length d1 (gf r.vars) ∧ Row w' b2 r.marks.length d2 (gf r.marks) ∧ Row w' b3 r.dues.length d3 (gf r.dues) ∧ Below w.heap.size w w'
theorem Row.below {w w' : World} {b n c : Nat} {f : Nat → Int} (h : Row w b n c f) (hb : Below w.heap.size w w') : Row w' b n c f := h.kept (hb.block _ h.lt)
set_option maxRecDepth 100000 in
set_option maxHeartbeats 8000000 in
theorem specCopy (r : RunD) (v1 v2 v3 : Value) (w : World) (hs : Ch.Small 1048576 r) (hc : Ch.At w 0 v1 v2 v3 r) :
    Calls Tryz.prog 49 #[.agg #[.int .i64 r.status, .int .i64 r.now, v1, v2, v3]] w (CopyP r w) := by
  have s1 := hs.vars
  have s2 := hs.marks
  have s3 := hs.dues
  obtain ⟨a1, c1, rfl⟩ := hc.vars.slice
  obtain ⟨a2, c2, rfl⟩ := hc.marks.slice
  obtain ⟨a3, c3, rfl⟩ := hc.dues.slice
  obtain ⟨w0, e0⟩ : ∃ w0, w0 = (w.alloc (.cells #[.int .i64 r.status, .int .i64 r.now, .slice a1 r.vars.length c1, .slice a2 r.marks.length c2, .slice a3 r.dues.length c3] 26)).alloc (.cells #[.int .i64 0, .int .i64 0, .slice none 0 0, .slice none 0 0, .slice none 0 0] 26) := ⟨_, rfl⟩
  have hb0 : Below w.heap.size w w0 := by rw [e0]; exact ((Below.refl _ w).alloc (Nat.le_refl _) _).alloc (by simp) _
  have hk0 : w0.heap[w.heap.size]? = some (.cells #[.int .i64 r.status, .int .i64 r.now, .slice a1 r.vars.length c1, .slice a2 r.marks.length c2, .slice a3 r.dues.length c3] 26) := by rw [e0, Below.heap_alloc _ _ _ (by simp)]; exact Ch.new_blk _ _
  have hz0 : w0.heap[w.heap.size + 1]? = some (.cells #[.int .i64 0, .int .i64 0, .slice none 0 0, .slice none 0 0, .slice none 0 0] 26) := by rw [e0]; exact Ch.new_at (by simp) _
  have HD : Hid (w0.drew.heap[w.heap.size]? = some (.cells #[.int .i64 r.status, .int .i64 r.now, .slice a1 r.vars.length c1, .slice a2 r.marks.length c2, .slice a3 r.dues.length c3] 26)) := hid hk0
  have HZ : Hid (w0.drew.heap[w.heap.size + 1]? = some (.cells #[.int .i64 0, .int .i64 0, .slice none 0 0, .slice none 0 0, .slice none 0 0] 26)) := hid hz0
  have HB0 := hid hb0.drew
  have HC0 := hid (hc.below hb0.drew)
  clear hs hc hb0 hk0 hz0
  go_enter Tryz.func49, Tryz.ntmps49
  go_wp2
  rw [← e0]
  clear e0
  refine wp_region_held_drew (S := fun wx => wx.heap[w.heap.size]? = some (.cells #[.int .i64 r.status, .int .i64 r.now, .slice a1 r.vars.length c1, .slice a2 r.marks.length c2, .slice a3 r.dues.length c3] 26)) (by kernel_rfl) HD.out (fun hHeld => ?_)
  refine wpAnyH_take (i := 0) (v := .pointer (some ⟨w.heap.size, 0, none⟩)) rfl (by kernel_rfl) (by kernel_rfl) (by kernel_rfl) (fun _ _ _ h => h) (Or.inl ⟨by kernel_rfl, by intro w hSw; (try dsimp only at hSw); go_simp⟩) (by assumption) ?_
  simp only [Act.put, List.setIfInBounds_toArray, List.set_cons_zero, List.set_cons_succ]
  refine wpAnyH_take (i := 2) (v := .pointer (some ⟨w.heap.size, 1, none⟩)) rfl (by kernel_rfl) (by kernel_rfl) (by kernel_rfl) (fun _ _ _ h => h) (Or.inl ⟨by kernel_rfl, by intro w hSw; (try dsimp only at hSw); go_simp⟩) (by assumption) ?_
  simp only [Act.put, List.setIfInBounds_toArray, List.set_cons_zero, List.set_cons_succ]
  refine wpAnyH_take (i := 4) (v := .pointer (some ⟨w.heap.size, 2, none⟩)) rfl (by kernel_rfl) (by kernel_rfl) (by kernel_rfl) (fun _ _ _ h => h) (Or.inl ⟨by kernel_rfl, by intro w hSw; (try dsimp only at hSw); go_simp⟩) (by assumption) ?_
  simp only [Act.put, List.setIfInBounds_toArray, List.set_cons_zero, List.set_cons_succ]
  refine wpAnyH_take (i := 7) (v := .pointer (some ⟨w.heap.size, 3, none⟩)) rfl (by kernel_rfl) (by kernel_rfl) (by kernel_rfl) (fun _ _ _ h => h) (Or.inl ⟨by kernel_rfl, by intro w hSw; (try dsimp only at hSw); go_simp⟩) (by assumption) ?_
  simp only [Act.put, List.setIfInBounds_toArray, List.set_cons_zero, List.set_cons_succ]
  refine wpAnyH_take (i := 10) (v := .pointer (some ⟨w.heap.size, 4, none⟩)) rfl (by kernel_rfl) (by kernel_rfl) (by kernel_rfl) (fun _ _ _ h => h) (Or.inl ⟨by kernel_rfl, by intro w hSw; (try dsimp only at hSw); go_simp⟩) (by assumption) ?_
  simp only [Act.put, List.setIfInBounds_toArray, List.set_cons_zero, List.set_cons_succ]
  refine wpAnyH_take (i := 1) (v := .int .i64 r.status) rfl (by kernel_rfl) (by kernel_rfl) (by kernel_rfl) (fun _ _ _ h => h) (Or.inl ⟨by kernel_rfl, by intro w hSw; (try dsimp only at hSw); have m0 := Ch.blk_cell hSw 0; have m1 := Ch.blk_cell hSw 1; have m2 := Ch.blk_cell hSw 2; have m3 := Ch.blk_cell hSw 3; have m4 := Ch.blk_cell hSw 4; clear hSw; go_simp⟩) (by assumption) ?_
  simp only [Act.put, List.setIfInBounds_toArray, List.set_cons_zero, List.set_cons_succ]
  refine wpAnyH_take (i := 3) (v := .int .i64 r.now) rfl (by kernel_rfl) (by kernel_rfl) (by kernel_rfl) (fun _ _ _ h => h) (Or.inl ⟨by kernel_rfl, by intro w hSw; (try dsimp only at hSw); have m0 := Ch.blk_cell hSw 0; have m1 := Ch.blk_cell hSw 1; have m2 := Ch.blk_cell hSw 2; have m3 := Ch.blk_cell hSw 3; have m4 := Ch.blk_cell hSw 4; clear hSw; go_simp⟩) (by assumption) ?_
  simp only [Act.put, List.setIfInBounds_toArray, List.set_cons_zero, List.set_cons_succ]
  refine wpAnyH_take (i := 5) (v := .slice a1 r.vars.length c1) rfl (by kernel_rfl) (by kernel_rfl) (by kernel_rfl) (fun _ _ _ h => h) (Or.inl ⟨by kernel_rfl, by intro w hSw; (try dsimp only at hSw); have m0 := Ch.blk_cell hSw 0; have m1 := Ch.blk_cell hSw 1; have m2 := Ch.blk_cell hSw 2; have m3 := Ch.blk_cell hSw 3; have m4 := Ch.blk_cell hSw 4; clear hSw; go_simp⟩) (by assumption) ?_
  simp only [Act.put, List.setIfInBounds_toArray, List.set_cons_zero, List.set_cons_succ]
  refine wpAnyH_take (i := 8) (v := .slice a2 r.marks.length c2) rfl (by kernel_rfl) (by kernel_rfl) (by kernel_rfl) (fun _ _ _ h => h) (Or.inl ⟨by kernel_rfl, by intro w hSw; (try dsimp only at hSw); have m0 := Ch.blk_cell hSw 0; have m1 := Ch.blk_cell hSw 1; have m2 := Ch.blk_cell hSw 2; have m3 := Ch.blk_cell hSw 3; have m4 := Ch.blk_cell hSw 4; clear hSw; go_simp⟩) (by assumption) ?_
  simp only [Act.put, List.setIfInBounds_toArray, List.set_cons_zero, List.set_cons_succ]
  refine wpAnyH_take (i := 11) (v := .slice a3 r.dues.length c3) rfl (by kernel_rfl) (by kernel_rfl) (by kernel_rfl) (fun _ _ _ h => h) (Or.inl ⟨by kernel_rfl, by intro w hSw; (try dsimp only at hSw); have m0 := Ch.blk_cell hSw 0; have m1 := Ch.blk_cell hSw 1; have m2 := Ch.blk_cell hSw 2; have m3 := Ch.blk_cell hSw 3; have m4 := Ch.blk_cell hSw 4; clear hSw; go_simp⟩) (by assumption) ?_
  simp only [Act.put, List.setIfInBounds_toArray, List.set_cons_zero, List.set_cons_succ]
  refine wpAnyH_ready (rs := [6]) (by kernel_rfl) (by simp) ?_
  refine AllReadyH.cons rfl (fun K hK => ?_) AllReadyH.nil
  go_simp
  go_at_call 34
  refine (specInts 0 r.vars _ _ (by omega) HC0.out.vars).mono ?_
  rintro e q1 ⟨⟨b1, d1, rfl, hle1, hrow1⟩, hb⟩
  have HD1 : Hid (q1.heap[w.heap.size]? = some (.cells #[.int .i64 r.status, .int .i64 r.now, .slice a1 r.vars.length c1, .slice a2 r.marks.length c2, .slice a3 r.dues.length c3] 26)) := hid ((hb.block _ (Ch.blk_lt HD.out)).trans HD.out)
  have HZ1 : Hid (q1.heap[w.heap.size + 1]? = some (.cells #[.int .i64 0, .int .i64 0, .slice none 0 0, .slice none 0 0, .slice none 0 0] 26)) := hid ((hb.block _ (Ch.blk_lt HZ.out)).trans HZ.out)
  have HB1 := hid (HB0.out.trans (hb.mono HB0.out.size))
  have HC1 := hid (HC0.out.below hb)
  have HW1 := hid hrow1
  have lw1 := hrow1.lt
  have lz1 : w.heap.size + 1 < w0.drew.heap.size := Ch.blk_lt HZ.out
  clear hb hrow1
  go_wp2_with fail
  refine hK.out _ _ HD1.out (fun hHeld => ?_)
  clear hK K
  try simp only [Act.put, List.setIfInBounds_toArray, List.set_cons_zero, List.set_cons_succ]
  refine wpAnyH_ready (rs := [9]) (by kernel_rfl) (by simp) ?_
  refine AllReadyH.cons rfl (fun K hK => ?_) AllReadyH.nil
  go_simp
  go_at_call 34
  refine (specInts 0 r.marks _ _ (by omega) HC1.out.marks).mono ?_
  rintro e q2 ⟨⟨b2, d2, rfl, hle2, hrow2⟩, hb⟩
  have HD2 : Hid (q2.heap[w.heap.size]? = some (.cells #[.int .i64 r.status, .int .i64 r.now, .slice a1 r.vars.length c1, .slice a2 r.marks.length c2, .slice a3 r.dues.length c3] 26)) := hid ((hb.block _ (Ch.blk_lt HD1.out)).trans HD1.out)
  have HZ2 : Hid (q2.heap[w.heap.size + 1]? = some (.cells #[.int .i64 0, .int .i64 0, .slice none 0 0, .slice none 0 0, .slice none 0 0] 26)) := hid ((hb.block _ (Ch.blk_lt HZ1.out)).trans HZ1.out)
  have HB2 := hid (HB1.out.trans (hb.mono HB1.out.size))
  have HC2 := hid (HC1.out.below hb)
  have HW2 := hid hrow2
  have lw2 := hrow2.lt
  have HW1x := hid (Row.below HW1.out hb)
  have lz2 : w.heap.size + 1 < q1.heap.size := Ch.blk_lt HZ1.out
  clear hb hrow2
  go_wp2_with fail
  refine hK.out _ _ HD2.out (fun hHeld => ?_)
  clear hK K
  try simp only [Act.put, List.setIfInBounds_toArray, List.set_cons_zero, List.set_cons_succ]
  refine wpAnyH_ready (rs := [12]) (by kernel_rfl) (by simp) ?_
  refine AllReadyH.cons rfl (fun K hK => ?_) AllReadyH.nil
  go_simp
  go_at_call 34
  refine (specInts 0 r.dues _ _ (by omega) HC2.out.dues).mono ?_
  rintro e q3 ⟨⟨b3, d3, rfl, hle3, hrow3⟩, hb⟩
  have HD3 : Hid (q3.heap[w.heap.size]? = some (.cells #[.int .i64 r.status, .int .i64 r.now, .slice a1 r.vars.length c1, .slice a2 r.marks.length c2, .slice a3 r.dues.length c3] 26)) := hid ((hb.block _ (Ch.blk_lt HD2.out)).trans HD2.out)
  have HZ3 : Hid (q3.heap[w.heap.size + 1]? = some (.cells #[.int .i64 0, .int .i64 0, .slice none 0 0, .slice none 0 0, .slice none 0 0] 26)) := hid ((hb.block _ (Ch.blk_lt HZ2.out)).trans HZ2.out)
  have HB3 := hid (HB2.out.trans (hb.mono HB2.out.size))
  have HC3 := hid (HC2.out.below hb)
  have HW3 := hid hrow3
  have lw3 := hrow3.lt
  have HW1xx := hid (Row.below HW1x.out hb)
  have HW2x := hid (Row.below HW2.out hb)
  have lz3 : w.heap.size + 1 < q2.heap.size := Ch.blk_lt HZ2.out
  clear hb hrow3
  go_wp2_with fail
  refine hK.out _ _ HD3.out (fun hHeld => ?_)
  clear hK K
  try simp only [Act.put, List.setIfInBounds_toArray, List.set_cons_zero, List.set_cons_succ]
  refine wpAnyH_take (i := 13) (v := .agg #[.int .i64 r.status, .int .i64 r.now, .slice (some ⟨b1, 0, none⟩) r.vars.length d1, .slice (some ⟨b2, 0, none⟩) r.marks.length d2, .slice (some ⟨b3, 0, none⟩) r.dues.length d3]) rfl (by kernel_rfl) (by kernel_rfl) (by kernel_rfl) (fun _ _ _ h => h) (Or.inl ⟨by kernel_rfl, by intro w hSw; (try dsimp only at hSw); go_simp⟩) (by assumption) ?_
  simp only [Act.put, List.setIfInBounds_toArray, List.set_cons_zero, List.set_cons_succ]
  have t0 := Ch.blk_free HZ3.out 0
  have t1 := Ch.blk_free HZ3.out 1
  have t2 := Ch.blk_free HZ3.out 2
  have t3 := Ch.blk_free HZ3.out 3
  have t4 := Ch.blk_free HZ3.out 4
  have z0 : q3.cell? ⟨w.heap.size + 1, 0, none⟩ = some (.int .i64 0) := Ch.blk_cell HZ3.out 0
  have z1 : q3.cell? ⟨w.heap.size + 1, 1, none⟩ = some (.int .i64 0) := Ch.blk_cell HZ3.out 1
  have z2 : q3.cell? ⟨w.heap.size + 1, 2, none⟩ = some (.slice none 0 0) := Ch.blk_cell HZ3.out 2
  have z3 : q3.cell? ⟨w.heap.size + 1, 3, none⟩ = some (.slice none 0 0) := Ch.blk_cell HZ3.out 3
  have z4 : q3.cell? ⟨w.heap.size + 1, 4, none⟩ = some (.slice none 0 0) := Ch.blk_cell HZ3.out 4
  have lz := Ch.blk_lt HZ3.out
  obtain ⟨wf, ef⟩ : ∃ wf, wf = (((((q3.setCell ⟨w.heap.size + 1, 0, none⟩ (.int .i64 r.status)).setCell ⟨w.heap.size + 1, 1, none⟩ (.int .i64 r.now)).setCell ⟨w.heap.size + 1, 2, none⟩ (.slice (some ⟨b1, 0, none⟩) r.vars.length d1)).setCell ⟨w.heap.size + 1, 3, none⟩ (.slice (some ⟨b2, 0, none⟩) r.marks.length d2)).setCell ⟨w.heap.size + 1, 4, none⟩ (.slice (some ⟨b3, 0, none⟩) r.dues.length d3)) := ⟨_, rfl⟩
  have HZF : Hid (wf.heap[w.heap.size + 1]? = some (.cells #[.int .i64 r.status, .int .i64 r.now, .slice (some ⟨b1, 0, none⟩) r.vars.length d1, .slice (some ⟨b2, 0, none⟩) r.marks.length d2, .slice (some ⟨b3, 0, none⟩) r.dues.length d3] 26)) := hid (by rw [ef]; exact Ch.set5 HZ3.out _ _ _ _ _)
  have oth : ∀ b, b ≠ w.heap.size + 1 → wf.heap[b]? = q3.heap[b]? := fun b hb => by rw [ef, Below.heap_setCell _ _ _ _ hb, Below.heap_setCell _ _ _ _ hb, Below.heap_setCell _ _ _ _ hb, Below.heap_setCell _ _ _ _ hb, Below.heap_setCell _ _ _ _ hb]
  have hDF : wf.heap[w.heap.size]? = some (.cells #[.int .i64 r.status, .int .i64 r.now, .slice a1 r.vars.length c1, .slice a2 r.marks.length c2, .slice a3 r.dues.length c3] 26) := (oth _ (by omega)).trans HD3.out
  have HBF : Hid (Below w.heap.size w wf) := hid (by rw [ef]; exact Ch.below5 HB3.out (by omega) _ _ _ _ _)
  have HR1 := hid (HW1xx.out.kept (oth b1 (by omega)))
  have HR2 := hid (HW2x.out.kept (oth b2 (by omega)))
  have HR3 := hid (HW3.out.kept (oth b3 (by omega)))
  have HL : Hid (w.heap.size ≤ b1 ∧ b1 < b2 ∧ b2 < b3) := hid ⟨by omega, by omega, by omega⟩
  refine wpAnyH_ready (rs := [14]) (by kernel_rfl) (by simp) ?_
  refine AllReadyH.cons rfl (fun K hK => ?_) AllReadyH.nil
  go_simp
  rw [← ef]
  refine hK.out _ _ hDF (fun hHeld => ?_)
  clear hK K
  try simp only [Act.put, List.setIfInBounds_toArray, List.set_cons_zero, List.set_cons_succ]
  refine wpAnyH_done (by kernel_rfl) ?_ _
  clear hHeld ef oth
  try simp only [List.getElem_toArray, List.getElem_cons_succ, List.getElem_cons_zero, Act.put, List.setIfInBounds_toArray, List.set_cons_zero, List.set_cons_succ]
  go_wp2
  refine bodyPost_ret (results_cell_row Tryz.results49 _ _ (w.heap.size + 1) 26 #[.int .i64 r.status, .int .i64 r.now, .slice (some ⟨b1, 0, none⟩) r.vars.length d1, .slice (some ⟨b2, 0, none⟩) r.marks.length d2, .slice (some ⟨b3, 0, none⟩) r.dues.length d3] (0, 0) _ rfl HZF.out Tryz.underlying26 rfl info5) rfl ?_
  exact ⟨b1, b2, b3, d1, d2, d3, rfl, HL.out.1, HL.out.2.1, HL.out.2.2, HR1.out, HR2.out, HR3.out, HBF.out⟩
end Kw
end Go.Proofs.YtpgbjpfpgbjbeaaGreatDoor
