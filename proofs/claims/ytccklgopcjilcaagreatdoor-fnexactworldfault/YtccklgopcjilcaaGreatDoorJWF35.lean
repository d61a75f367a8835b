/- Laid together: KsG, NdQ. -/
import Derived.Test.YtccklgopcjilcaaGreatDoorJWF34
import Derived.BigQuiet
import Derived.Test.YtccklgopcjilcaaGreatDoorJWF1
import Derived.Laws.StructEq
/- The specification's ChartFault. -/
namespace Go.Proofs.YtccklgopcjilcaaGreatDoor
open Go.RowKit Go.Deep
set_option linter.unusedVariables false
set_option linter.unusedSimpArgs false
namespace Ks
open Ex (inR evalCode evalVal vFault hid specIn)
open St (StepD)
open Ch (RunD)
open Pf
open Kc (fA fD fA_eq fD_eq wrongP within zeros fitsP chartC numC stateC c_proc c_num c_form c_ok num_state num_len num_range num_ok st_status st_now st_vars within_take within_bad zeros_take)
def noWrong (ss : List StepD) (r : RunD) (n : Nat) : Bool := (List.range n).all fun k => !wrongP ss (fA r) (fD r) k
theorem noWrong_succ (ss : List StepD) (r : RunD) (n : Nat) : noWrong ss r (n + 1) = (noWrong ss r n && !wrongP ss (fA r) (fD r) n) := by
  unfold noWrong
  rw [List.range_succ, List.all_append]
  simp
theorem noWrong_no {ss : List StepD} {r : RunD} {n k : Nat} (hk : k < n) (h : wrongP ss (fA r) (fD r) k = true) : noWrong ss r n = false := by
  unfold noWrong
  rw [List.all_eq_false]
  exact ⟨k, List.mem_range.2 hk, by simp [h]⟩
theorem fits_live {ss : List StepD} {r : RunD} (h : r.status = 1) : fitsP ss r = ((fA r 0 == 1) && noWrong ss r ss.length) := by unfold fitsP; rw [if_neg (by simp [h])]; rfl
theorem fits_not {ss : List StepD} {r : RunD} (h : r.status ≠ 1) : fitsP ss r = (zeros r.marks && zeros r.dues) := by unfold fitsP; rw [if_pos h]
set_option maxRecDepth 100000 in
set_option maxHeartbeats 32000000 in
theorem specChartFaultO (B : Nat) (ss : List StepD) (v : Value) (R O : Nat) (r : RunD) (v1 v2 v3 : Value) (w : World) (hsm : St.Small 1048576 ss) (hs : Ch.Small 1048576 r) (ha : St.At w B v ss) (hc : CPo w R O v1 v2 v3 r) :
    Calls Tryz.prog 156 #[v, .pointer (some ⟨R, O, none⟩)] w fun e w' => e = .returned (.int .i64 (chartC ss r)) ∧ Below w.heap.size w w' := by
  obtain ⟨a, cap, rfl⟩ := ha.slice
  obtain ⟨a1, c1, rfl⟩ := hc.row.vars.slice
  obtain ⟨a2, c2, rfl⟩ := hc.row.marks.slice
  obtain ⟨a3, c3, rfl⟩ := hc.row.dues.slice
  have s1 := hs.vars
  have s2 := hs.marks
  have s3 := hs.dues
  have HF := hid (specFault B ss _ w hsm ha)
  have HA := hid ha
  have HC := hid hc
  clear ha hc hsm hs
  go_enter Tryz.func156, Tryz.ntmps156
  go_wp2_with fail
  refine HF.out.mono ?_
  rintro e w1 ⟨rfl, hb1⟩
  have HB1 := hid hb1
  have hC1 := HC.out.below hb1
  have m0 : w1.cell? ⟨R, O, none⟩ = some (.int .i64 r.status) := hC1.c0
  have m1 : w1.cell? ⟨R, O + 1, none⟩ = some (.int .i64 r.now) := hC1.c1
  have m2 : w1.cell? ⟨R, O + 2, none⟩ = some (.slice a1 r.vars.length c1) := hC1.c2
  have m3 : w1.cell? ⟨R, O + 3, none⟩ = some (.slice a2 r.marks.length c2) := hC1.c3
  have m4 : w1.cell? ⟨R, O + 4, none⟩ = some (.slice a3 r.dues.length c3) := hC1.c4
  have HI := hid (fun w' => specIn r.status 1 3 w')
  have HT := hid (fun w' => specTime r.now w')
  have HVF := hid (Ex.specVars 0 r.vars _ w1 (by omega) hC1.row.vars)
  have HC1 := hid hC1
  have HA1 := hid (HA.out.below hb1)
  clear HF hb1 hC1 HC HA
  rcases (Classical.em (pFault ss = 0)).symm with hf | hf
  · have b0 : (pFault ss != 0) = true := bne_iff_ne.2 hf
    have HX := hid (c_proc (r := r) hf)
    clear hf
    go_wp2
    go_ret
    exact ⟨by rw [HX.out]; rfl, HB1.out⟩
  have b0 : (pFault ss != 0) = false := by simp [hf]
  have HP := hid hf
  have hl : ss.length ≤ 24 := by have := (of_p hf).1; omega
  have hpos : 0 < ss.length := by have := (of_p hf).1; omega
  clear hf
  cases h1 : inR r.status 1 3
  · have HX : Hid (chartC ss r = 3) := hid (by have e := st_status (now := r.now) (vars := r.vars) h1; rw [c_num HP.out (by rw [num_state (by rw [e]; decide), e]; decide), num_state (by rw [e]; decide), e])
    rw [h1] at HI
    clear h1
    go_wp2_with (go_at_call 118; refine (HI.out _).mono ?_; rintro e w2 ⟨rfl, hw2⟩; replace hw2 := hw2.symm; subst hw2)
    go_ret
    exact ⟨by rw [HX.out]; rfl, HB1.out⟩
  rw [h1] at HI
  cases h2 : inR r.now 0 1000000
  · have HX : Hid (chartC ss r = 3) := hid (by have e := st_now (vars := r.vars) h1 h2; rw [c_num HP.out (by rw [num_state (by rw [e]; decide), e]; decide), num_state (by rw [e]; decide), e])
    rw [h2] at HT
    clear h1 h2
    go_wp2_with (first | (go_at_call 118; refine (HI.out _).mono ?_; rintro e w2 ⟨rfl, hw2⟩; replace hw2 := hw2.symm; subst hw2) | (go_at_call 155; refine (HT.out _).mono ?_; rintro e w2 ⟨rfl, hw2⟩; replace hw2 := hw2.symm; subst hw2))
    go_ret
    exact ⟨by rw [HX.out]; rfl, HB1.out⟩
  rw [h2] at HT
  have HSV := hid (st_vars (vars := r.vars) h1 h2)
  have hnow := Ex.inR_iff.1 h2
  clear h1 h2
  rcases (Classical.em (vFault r.vars = 0)).symm with h3 | h3
  · have b3 : (vFault r.vars != 0) = true := bne_iff_ne.2 h3
    have hne : stateC r.status r.now r.vars ≠ 0 := by rw [HSV.out]; exact h3
    have HX : Hid (chartC ss r = vFault r.vars) := hid (by rw [c_num HP.out (by rw [num_state hne]; exact hne), num_state hne, HSV.out])
    clear hne
    clear h3
    go_wp2_with (first | (go_at_call 118; refine (HI.out _).mono ?_; rintro e w2 ⟨rfl, hw2⟩; replace hw2 := hw2.symm; subst hw2) | (go_at_call 155; refine (HT.out _).mono ?_; rintro e w2 ⟨rfl, hw2⟩; replace hw2 := hw2.symm; subst hw2) | (go_at_call 188; refine HVF.out.mono ?_; rintro e w2 ⟨rfl, hw2⟩; replace hw2 := hw2.symm; subst hw2))
    go_ret
    exact ⟨by rw [HX.out]; rfl, HB1.out⟩
  have b3 : (vFault r.vars != 0) = false := by simp [h3]
  have HST : Hid (stateC r.status r.now r.vars = 0) := hid (by rw [HSV.out]; exact h3)
  clear h3 HSV
  rcases (Classical.em (r.marks.length = ss.length ∧ r.dues.length = ss.length)).symm with h4 | h4
  · have HX : Hid (chartC ss r = 2) := hid (by have e := num_len HST.out h4; rw [c_num HP.out (by rw [e]; decide), e])
    by_cases h5 : r.marks.length = ss.length
    · have b4 : ((r.marks.length : Int) != (ss.length : Int)) = false := by simp [h5]
      have b5 : ((r.dues.length : Int) != (ss.length : Int)) = true := bne_iff_ne.2 (fun e => h4 ⟨h5, by omega⟩)
      clear h4 h5
      go_wp2_with (first | (go_at_call 118; refine (HI.out _).mono ?_; rintro e w2 ⟨rfl, hw2⟩; replace hw2 := hw2.symm; subst hw2) | (go_at_call 155; refine (HT.out _).mono ?_; rintro e w2 ⟨rfl, hw2⟩; replace hw2 := hw2.symm; subst hw2) | (go_at_call 188; refine HVF.out.mono ?_; rintro e w2 ⟨rfl, hw2⟩; replace hw2 := hw2.symm; subst hw2))
      go_ret
      exact ⟨by rw [HX.out]; rfl, HB1.out⟩
    · have b4 : ((r.marks.length : Int) != (ss.length : Int)) = true := bne_iff_ne.2 (fun e => h5 (by omega))
      clear h4 h5
      go_wp2_with (first | (go_at_call 118; refine (HI.out _).mono ?_; rintro e w2 ⟨rfl, hw2⟩; replace hw2 := hw2.symm; subst hw2) | (go_at_call 155; refine (HT.out _).mono ?_; rintro e w2 ⟨rfl, hw2⟩; replace hw2 := hw2.symm; subst hw2) | (go_at_call 188; refine HVF.out.mono ?_; rintro e w2 ⟨rfl, hw2⟩; replace hw2 := hw2.symm; subst hw2))
      go_ret
      exact ⟨by rw [HX.out]; rfl, HB1.out⟩
  have b4 : ((r.marks.length : Int) != (ss.length : Int)) = false := by simp [h4.1]
  have b5 : ((r.dues.length : Int) != (ss.length : Int)) = false := by simp [h4.2]
  have HLM := hid h4.1
  have HLD := hid h4.2
  clear h4
  have HNR : Hid ((within r.marks 2 && within r.dues (r.now + 99)) = false → chartC ss r = 3) := hid (fun h => by have e := num_range HST.out HLM.out HLD.out h; rw [c_num HP.out (by rw [e]; decide), e])
  have HNK : Hid (within r.marks 2 = true → within r.dues (r.now + 99) = true → numC ss.length r = 0) := hid (fun h h' => num_ok HST.out HLM.out HLD.out h h')
  go_wp2_with (first | (go_at_call 118; refine (HI.out _).mono ?_; rintro e w2 ⟨rfl, hw2⟩; replace hw2 := hw2.symm; subst hw2) | (go_at_call 155; refine (HT.out _).mono ?_; rintro e w2 ⟨rfl, hw2⟩; replace hw2 := hw2.symm; subst hw2) | (go_at_call 188; refine HVF.out.mono ?_; rintro e w2 ⟨rfl, hw2⟩; replace hw2 := hw2.symm; subst hw2))
  clear HI HT HVF b0 b3 b4 b5 m0 m1 m2 m3 m4
  go_loopw [7, 8] (fun y z wr => ∃ (i : Nat) (sm : Bool), z = .int .i64 i ∧ y = .bool sm ∧ i ≤ ss.length ∧ Hid (within (r.marks.take i) 2 = true ∧ within (r.dues.take i) (r.now + 99) = true ∧ sm = !(zeros (r.marks.take i) && zeros (r.dues.take i))) ∧ Hid (Below w1.heap.size w1 wr)) (fun _ z _ => ss.length - (intOf z).toNat)
  case atStart => exact ⟨0, false, rfl, rfl, Nat.zero_le _, hid ⟨rfl, rfl, rfl⟩, hid (Below.refl _ _)⟩
  case round =>
    obtain ⟨i, sm, rfl, rfl, hi, HM, HBR⟩ := hrel
    have hC := HC1.out.below HBR.out
    have m0 : wr.cell? ⟨R, O, none⟩ = some (.int .i64 r.status) := hC.c0
    have m1 : wr.cell? ⟨R, O + 1, none⟩ = some (.int .i64 r.now) := hC.c1
    have m3 : wr.cell? ⟨R, O + 3, none⟩ = some (.slice a2 r.marks.length c2) := hC.c3
    have m4 : wr.cell? ⟨R, O + 4, none⟩ = some (.slice a3 r.dues.length c3) := hC.c4
    have HBW := hid (HB1.out.trans (HBR.out.mono HB1.out.size))
    obtain ⟨g2, o2, rfl, hac⟩ := nu_cell hC.row.marks (by rw [HLM.out]; omega)
    obtain ⟨g3, o3, rfl, hdc⟩ := nu_cell hC.row.dues (by rw [HLD.out]; omega)
    by_cases hlt : i < ss.length
    · have q1 : (i : Int) < (ss.length : Int) := by omega
      have him : i < r.marks.length := by rw [HLM.out]; exact hlt
      have hid' : i < r.dues.length := by rw [HLD.out]; exact hlt
      have q2 : (i : Int) < (r.marks.length : Int) := by omega
      have q3 : (i : Int) < (r.dues.length : Int) := by omega
      have n2 := hac _ him
      have n3 := hdc _ hid'
      have HT1 := hid (within_take (m := 2) him)
      have HT2 := hid (within_take (m := r.now + 99) hid')
      have HZ1 := hid (zeros_take him)
      have HZ2 := hid (zeros_take hid')
      have HW1 := hid (within_bad (m := 2) him)
      have HW2 := hid (within_bad (m := r.now + 99) hid')
      clear hac hdc hC
      generalize r.marks[i] = am at *
      generalize r.dues[i] = ad at *
      clear him hid'
      cases hA : inR am 0 2
      · have HX : Hid (chartC ss r = 3) := hid (HNR.out (by rw [HW1.out hA]; rfl))
        clear HT1 HT2 HZ1 HZ2 HW1 HW2 HM
        go_wp2
        try simp only [List.append_eq, List.cons_append, List.nil_append]
        go_quiet ((go_at_call 118; exact Calls.quiet_of_same (specIn _ _ _ _)))
        go_wp2
        go_ret
        exact ⟨by rw [HX.out]; rfl, Ints.below_drewN HBW.out nq⟩
      · rw [hA] at HT1
        cases hD : inR ad 0 (r.now + 99)
        · have HX : Hid (chartC ss r = 3) := hid (HNR.out (by rw [HW2.out hD, Bool.and_false]))
          clear HT1 HT2 HZ1 HZ2 HW1 HW2 HM
          go_wp2
          try simp only [List.append_eq, List.cons_append, List.nil_append]
          go_quiet ((go_at_call 118; exact Calls.quiet_of_same (specIn _ _ _ _)))
          go_wp2
          go_ret
          exact ⟨by rw [HX.out]; rfl, Ints.below_drewN HBW.out nq⟩
        · rw [hD] at HT2
          have HX : Hid (within (r.marks.take (i + 1)) 2 = true ∧ within (r.dues.take (i + 1)) (r.now + 99) = true ∧ (sm || (am != 0) || (ad != 0)) = !(zeros (r.marks.take (i + 1)) && zeros (r.dues.take (i + 1)))) := hid (by
            obtain ⟨x1, x2, x3⟩ := HM.out
            refine ⟨by rw [HT1.out, x1]; rfl, by rw [HT2.out, x2]; rfl, ?_⟩
            rw [HZ1.out, HZ2.out, x3]
            have e1 : (am != 0) = !(am == 0) := rfl
            have e2 : (ad != 0) = !(ad == 0) := rfl
            rw [e1, e2]
            generalize (am == 0) = p1
            generalize (ad == 0) = p2
            generalize zeros (r.marks.take i) = p3
            generalize zeros (r.dues.take i) = p4
            cases p1 <;> cases p2 <;> cases p3 <;> cases p4 <;> rfl)
          clear HT1 HT2 HZ1 HZ2 HW1 HW2 HM
          cases sm
          · cases hx1 : (am != 0)
            · rw [hx1] at HX
              go_wp2
              try simp only [List.append_eq, List.cons_append, List.nil_append]
              go_quiet ((go_at_call 118; exact Calls.quiet_of_same (specIn _ _ _ _)))
              go_wp2
              exact ⟨⟨i + 1, (ad != 0), by simp, rfl, by omega, HX, hid (Ints.below_drewN HBR.out nq)⟩, by simp [intOf]; omega⟩
            · rw [hx1] at HX
              go_wp2
              try simp only [List.append_eq, List.cons_append, List.nil_append]
              go_quiet ((go_at_call 118; exact Calls.quiet_of_same (specIn _ _ _ _)))
              go_wp2
              exact ⟨⟨i + 1, true, by simp, rfl, by omega, HX, hid (Ints.below_drewN HBR.out nq)⟩, by simp [intOf]; omega⟩
          · go_wp2
            try simp only [List.append_eq, List.cons_append, List.nil_append]
            go_quiet ((go_at_call 118; exact Calls.quiet_of_same (specIn _ _ _ _)))
            go_wp2
            exact ⟨⟨i + 1, true, by simp, rfl, by omega, HX, hid (Ints.below_drewN HBR.out nq)⟩, by simp [intOf]; omega⟩
    · have hie : i = ss.length := by omega
      have HM2 : Hid (within r.marks 2 = true ∧ within r.dues (r.now + 99) = true ∧ sm = !(zeros r.marks && zeros r.dues)) := hid (by
        have := HM.out
        rwa [List.take_of_length_le (by rw [HLM.out]; omega), List.take_of_length_le (by rw [HLD.out]; omega)] at this)
      have HNZ := hid (HNK.out HM2.out.1 HM2.out.2.1)
      have q1 : ¬ (i : Int) < (ss.length : Int) := by omega
      clear HM hie HNR HNK
      rcases (Classical.em (r.status = 1)).symm with hst | hst
      · have b6 : (r.status != 1) = true := bne_iff_ne.2 hst
        have HFN := hid (fits_not (ss := ss) hst)
        clear hst hac hdc hC
        cases sm
        · have HX : Hid (chartC ss r = 0) := hid (c_ok HP.out HNZ.out (by rw [HFN.out]; have := HM2.out.2.2; revert this; cases zeros r.marks <;> cases zeros r.dues <;> simp))
          clear HM2 HFN
          go_wp2
          go_ret
          exact ⟨by rw [HX.out]; rfl, HBW.out⟩
        · have HX : Hid (chartC ss r = 1) := hid (c_form HP.out HNZ.out (by rw [HFN.out]; have := HM2.out.2.2; revert this; cases zeros r.marks <;> cases zeros r.dues <;> simp))
          clear HM2 HFN
          go_wp2
          go_ret
          exact ⟨by rw [HX.out]; rfl, HBW.out⟩
      · have b6 : (r.status != 1) = false := by simp [hst]
        have HFL := hid (fits_live (ss := ss) hst)
        have h0m : 0 < r.marks.length := by rw [HLM.out]; exact hpos
        have n0 := hac 0 h0m
        rw [← fA_eq h0m, Nat.add_zero] at n0
        have q5 : (0 : Int) < (r.marks.length : Int) := by omega
        clear hst hac hdc hC h0m HM2
        rcases (Classical.em (fA r 0 = 1)).symm with h0 | h0
        · have b7 : (fA r 0 != 1) = true := bne_iff_ne.2 h0
          have HX : Hid (chartC ss r = 1) := hid (c_form HP.out HNZ.out (by rw [HFL.out, beq_eq_false_iff_ne.2 h0]; rfl))
          clear h0
          go_wp2
          go_ret
          exact ⟨by rw [HX.out]; rfl, HBW.out⟩
        · have b7 : (fA r 0 != 1) = false := by simp [h0]
          have HFL2 : Hid (fitsP ss r = noWrong ss r ss.length) := hid (by rw [HFL.out, h0]; rfl)
          clear h0 HFL
          go_wp2
          clear m0 m1 m3 m4 n0 b6 b7 q1 q5
          have HC2 := hid (HC1.out.below HBR.out)
          have HA2 := hid (HA1.out.below HBR.out)
          obtain ⟨w3, hw3⟩ : ∃ w3, w3 = wr := ⟨_, rfl⟩
          rw [← hw3] at HC2 HA2 HBW
          have HE3 := hid hw3
          clear hw3 HBR
          go_loopw [9] (fun z wq => ∃ k : Nat, z = .int .i64 k ∧ k ≤ ss.length ∧ Hid (noWrong ss r k = true) ∧ Hid (Below w3.heap.size w3 wq)) (fun z _ => ss.length - (intOf z).toNat)
          case atStart => exact ⟨0, rfl, Nat.zero_le _, hid rfl, hid (by rw [HE3.out]; exact Below.refl _ _)⟩
          case round =>
            obtain ⟨k, rfl, hk, HNW, HBQ⟩ := hrel
            have HBX := hid (HBW.out.trans (HBQ.out.mono HBW.out.size))
            by_cases hlt : k < ss.length
            · have q1 : (k : Int) < (ss.length : Int) := by omega
              have HWR := hid (specWrong B ss _ k R O r _ _ _ _ HP.out hlt (HA2.out.below HBQ.out) (HC2.out.below HBQ.out) HLM.out HLD.out)
              have HNX := hid (noWrong_succ ss r k)
              have HNO := hid (fun h => noWrong_no (ss := ss) (r := r) hlt h)
              generalize wrongP ss (fA r) (fD r) k = wp at *
              go_wp2_with fail
              refine HWR.out.mono ?_
              rintro e w4 ⟨rfl, hb4⟩
              have HB4 := hid (HBQ.out.trans (hb4.mono HBQ.out.size))
              have HB5 := hid (HBX.out.trans (hb4.mono HBX.out.size))
              clear hb4 HWR
              cases wp
              · have HX : Hid (noWrong ss r (k + 1) = true) := hid (by rw [HNX.out, HNW.out]; rfl)
                clear HNX HNO HNW
                go_wp2
                exact ⟨⟨k + 1, by simp, by omega, HX, HB4⟩, by simp [intOf]; omega⟩
              · have HX : Hid (chartC ss r = 1) := hid (c_form HP.out HNZ.out (by rw [HFL2.out, HNO.out rfl]))
                clear HNX HNO HNW
                go_wp2
                go_ret
                exact ⟨by rw [HX.out]; rfl, HB5.out⟩
            · have hke : k = ss.length := by omega
              have HX : Hid (chartC ss r = 0) := hid (c_ok HP.out HNZ.out (by rw [HFL2.out, ← hke]; exact HNW.out))
              have q1 : ¬ (k : Int) < (ss.length : Int) := by omega
              clear HNW hke
              go_wp2
              go_ret
              exact ⟨by rw [HX.out]; rfl, HBX.out⟩
theorem specChartFault (B : Nat) (ss : List StepD) (v : Value) (R : Nat) (r : RunD) (v1 v2 v3 : Value) (w : World) (hsm : St.Small 1048576 ss) (hs : Ch.Small 1048576 r) (ha : St.At w B v ss) (hc : CP w R v1 v2 v3 r) :
    Calls Tryz.prog 156 #[v, .pointer (some ⟨R, 0, none⟩)] w fun e w' => e = .returned (.int .i64 (chartC ss r)) ∧ Below w.heap.size w w' :=
  specChartFaultO B ss v R 0 r v1 v2 v3 w hsm hs ha hc.o
end Ks
end Go.Proofs.YtccklgopcjilcaaGreatDoor
/- Two nodes held against each other. -/
namespace Go.Proofs.YtccklgopcjilcaaGreatDoor
open Go.RowKit
set_option linter.unusedVariables false
namespace Nd
def nodeEq (a b : NodeD) : Bool := a.kind == b.kind && a.value == b.value && a.left == b.left && a.right == b.right
theorem nodeEq_self (a : NodeD) : nodeEq a a = true := by simp [nodeEq]
theorem nd_under : Tryz.prog.underlying 210 = some (.struct (Tryz.prog.fieldsOf 210)) := by kernel_rfl
theorem nd_stood : Tryz.prog.stoodInHeld 210 = false := by kernel_rfl
theorem nd_guard : Tryz.prog.eqGuardType Tryz.prog.depth 210 = false := by kernel_rfl
set_option maxRecDepth 100000 in
theorem nd_fields : ∃ f0 f1 f2 f3 : Field, (Tryz.prog.fieldsOf 210).toList = [f0, f1, f2, f3] ∧ f0.name = "Kind" ∧ f0.type = 2 ∧ f0.offset = 0 ∧ f1.name = "Value" ∧ f1.type = 2 ∧ f1.offset = 1 ∧ f2.name = "Left" ∧ f2.type = 2 ∧ f2.offset = 2 ∧ f3.name = "Right" ∧ f3.type = 2 ∧ f3.offset = 3 := ⟨_, _, _, _, rfl, rfl, rfl, rfl, rfl, rfl, rfl, rfl, rfl, rfl, rfl, rfl, rfl⟩
set_option maxRecDepth 100000 in
/-- Two nodes held against each other. -/
theorem neqNode (a b : NodeD) (w : World) : Sem.run Tryz.prog (binOp .neq 210 (.agg #[.int .i64 a.kind, .int .i64 a.value, .int .i64 a.left, .int .i64 a.right]) (.agg #[.int .i64 b.kind, .int .i64 b.value, .int .i64 b.left, .int .i64 b.right])) w = .ok (.bool (!nodeEq a b)) w := by
  obtain ⟨f0, f1, f2, f3, hf, h1, h2, h3, h4, h5, h6, h7, h8, h9, h10, h11, h12⟩ := nd_fields
  rw [run_neq_struct, run_equalIn_struct w 9999 210 _ _ nd_under nd_stood, hf]
  have p0 : ∀ (x y z u : Value) (w : World), (part 2 #[x, y, z, u] 0).run Tryz.prog w = .ok x w := fun x y z u w => by kernel_rfl
  have p1 : ∀ (x y z u : Value) (w : World), (part 2 #[x, y, z, u] 1).run Tryz.prog w = .ok y w := fun x y z u w => by kernel_rfl
  have p2 : ∀ (x y z u : Value) (w : World), (part 2 #[x, y, z, u] 2).run Tryz.prog w = .ok z w := fun x y z u w => by kernel_rfl
  have p3 : ∀ (x y z u : Value) (w : World), (part 2 #[x, y, z, u] 3).run Tryz.prog w = .ok u w := fun x y z u w => by kernel_rfl
  simp only [Op.eqFields, h1, h2, h3, h4, h5, h6, h7, h8, h9, h10, h11, h12, Sem.run_bind, Sem.run_ite, p0, p1, p2, p3, Result.andThen_ok, run_equalIn_int w 9998 2 _ _ _ _ Tryz.underlying2]
  rw [if_pos (show "Kind" ≠ "_" by decide), if_pos (show "Value" ≠ "_" by decide), if_pos (show "Left" ≠ "_" by decide), if_pos (show "Right" ≠ "_" by decide)]
  unfold nodeEq
  cases a.kind == b.kind <;> cases a.value == b.value <;> cases a.left == b.left <;> cases a.right == b.right <;> rfl
theorem below_drewN {B : Nat} {a w : World} (h : Below B a w) (n : Nat) : Below B a (w.drewN n) := ⟨h.os, h.tape, h.output, h.size, h.block⟩
end Nd
end Go.Proofs.YtccklgopcjilcaaGreatDoor
