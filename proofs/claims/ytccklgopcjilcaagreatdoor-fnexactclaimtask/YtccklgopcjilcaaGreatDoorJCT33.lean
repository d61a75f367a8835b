/- DeskFault of the specification. No condition. -/
import Derived.Test.YtccklgopcjilcaaGreatDoorJCT28
import Derived.Test.YtccklgopcjilcaaGreatDoorJCT32
import Derived.Deep.RegionHeld3
import Derived.BigQuiet
namespace Go.Proofs.YtccklgopcjilcaaGreatDoor
open Go.RowKit Go.Deep
set_option linter.unusedVariables false
set_option linter.unusedSimpArgs false
namespace Dk
open En (EngD)
open Cl (ClD)
open Eg (engC firstNZ hasP hasP_in stepsD stepsD_eq EAt specFaultAtE)
open Kc (fA fA_eq)
open Pf (PJ PJ_eq)
open Ex (inR hid specIn)
open St (old_cell)
open Ch (blk_cell blk_lt new_blk new_at)
set_option maxRecDepth 100000 in
set_option maxHeartbeats 400000 in
theorem specUser (u : Int) (w : World) : Calls Tryz.prog 129 #[.int .i64 u] w fun z w' => z = .returned (.bool (isU u)) ∧ w' = w := by
  go_enter Tryz.func129, Tryz.ntmps129
  go_wp2_with fail
  refine (specIn u 1 9 w).mono ?_
  rintro z w1 ⟨rfl, hw⟩
  replace hw := hw.symm
  subst hw
  go_wp2
  go_ret
  exact ⟨rfl, rfl⟩
set_option maxRecDepth 100000 in
set_option maxHeartbeats 2000000 in
theorem specAhead (a b : ClD) (w : World) : Calls Tryz.prog 85 #[.agg #[.int .i64 a.inst, .int .i64 a.step, .int .i64 a.user], .agg #[.int .i64 b.inst, .int .i64 b.step, .int .i64 b.user]] w fun z w' => z = .returned (.bool (aheadC a b)) ∧ Below w.heap.size w w' := by
  have hB : Below w.heap.size w ((w.alloc (.cells #[.int .i64 a.inst, .int .i64 a.step, .int .i64 a.user] 143)).alloc (.cells #[.int .i64 b.inst, .int .i64 b.step, .int .i64 b.user] 143)) := ((Below.refl _ w).alloc (Nat.le_refl _) _).alloc (by simp) _
  have HB := hid hB
  obtain ⟨zz, hzz⟩ : ∃ zz, aheadC a b = zz := ⟨_, rfl⟩
  rw [hzz]
  unfold aheadC at hzz
  clear hB
  cases h1 : decide (a.inst < b.inst)
  · rw [h1, Bool.false_or] at hzz
    cases h2 : (a.inst == b.inst)
    · have e2 : decide (a.inst = b.inst) = false := by simpa using h2
      rw [e2, Bool.false_and] at hzz
      have HZ := hid hzz
      clear hzz e2
      go_enter Tryz.func85, Tryz.ntmps85
      go_wp2
      go_ret
      exact ⟨by rw [← HZ.out]; rfl, HB.out⟩
    · have e2 : decide (a.inst = b.inst) = true := by simpa using h2
      rw [e2, Bool.true_and] at hzz
      have HZ := hid hzz
      clear hzz e2
      go_enter Tryz.func85, Tryz.ntmps85
      go_wp2
      go_ret
      exact ⟨by rw [← HZ.out]; rfl, HB.out⟩
  · rw [h1, Bool.true_or] at hzz
    have HZ := hid hzz
    clear hzz
    go_enter Tryz.func85, Tryz.ntmps85
    go_wp2
    go_ret
    exact ⟨by rw [← HZ.out]; rfl, HB.out⟩
set_option maxRecDepth 100000 in
set_option maxHeartbeats 4000000 in
theorem specOpen (B P : Nat) (e : EngD) (vp vi : Value) (n : Nat) (s : Int) (w : World) (hs : En.Small 1048576 e) (ha : En.At w B vp vi e) (hP : EAt w P vp vi e.now) (hn : n < e.insts.length) (hk : engC e = 0) :
    Calls Tryz.prog 130 #[.pointer (some ⟨P, 0, none⟩), .int .i64 (n : Int), .int .i64 s] w fun z w' => z = .returned (.bool (openT e n s)) ∧ ∃ q, w' = w.drewN q := by
  obtain ⟨hp, hm, _⟩ := inst_ok hk hn
  have hOT : openT e n s = openP (stepsD e e.insts[n].proc) (fA e.insts[n].chart) s := by unfold openT; rw [Int.toNat_natCast, instD_eq hn]
  obtain ⟨hp0, hp1, hp2⟩ := hasP_in hp
  rw [stepsD_eq hp1] at hOT hm
  have hsl := (hs.procs.at hp1).1
  have hl1 := hs.procs.1
  have hl2 := hs.insts.1
  obtain ⟨zz, hzz⟩ : ∃ zz, openT e n s = zz := ⟨_, rfl⟩
  rw [hzz] at hOT ⊢
  clear hzz
  obtain ⟨a1, k1, rfl⟩ := ha.procs.slice
  obtain ⟨a2, k2, rfl⟩ := ha.insts.slice
  obtain ⟨g, o, x1, x2, x3, ea, hg, p0, _, _, _, p4, _, hc⟩ := ha.insts.at hn
  subst ea
  obtain ⟨g2, o2, y1, ea, hg2, d0, hst⟩ := ha.procs.at hp1
  subst ea
  obtain ⟨b2, l2, rfl⟩ := hc.marks.slice
  have hcm := hc.marks
  obtain ⟨c3, d3, rfl⟩ := hst.slice
  have t0 : (n : Int) < (e.insts.length : Int) := by omega
  have m0 := hP.c0
  have m1 := hP.c1
  have lP := hP.lt
  generalize hss : e.procs[e.insts[n].proc.toNat] = ss at *
  generalize hpp : e.insts[n].proc = p at *
  generalize hch : e.insts[n].chart = ch at *
  replace p4 : w.cell? ⟨g, o + n * 6 + 1 + 3, none⟩ = some (.slice b2 ch.marks.length l2) := p4
  clear ha hc hs hk hP hp hss hpp hch
  have HV := hid hst
  have HM := hid hcm
  have HP4 := hid p4
  have HOT := hid hOT
  have HMM := hid hm
  clear hst hcm p4 hOT hm
  go_enter Tryz.func130, Tryz.ntmps130
  go_wp2
  go_quiet (fail)
  have HW : Hid (∃ q, w.drewN nq = w.drewN q) := hid ⟨nq, rfl⟩
  have HV1 : Hid (St.At (w.drewN nq) B (.slice c3 ss.length d3) ss) := hid (HV.out.below (Nd.below_drewN (Below.refl _ w) nq))
  have HM1 : Hid (Nu.At (w.drewN nq) B (.slice b2 ch.marks.length l2) ch.marks) := hid (HM.out.below (Nd.below_drewN (Below.refl _ w) nq))
  have HP41 : Hid ((w.drewN nq).cell? ⟨g, o + n * 6 + 1 + 3, none⟩ = some (.slice b2 ch.marks.length l2)) := hid HP4.out
  have hg1 : g < (w.drewN nq).heap.size := hg
  clear p0 d0 m0 m1 HV HM HP4 hg2 lP hg
  generalize w.drewN nq = w1 at *
  go_wp2_with fail
  refine (specIn s 0 ((ss.length : Int) - 1) w1).mono ?_
  rintro z w2 ⟨rfl, hw⟩
  replace hw := hw.symm
  subst hw
  cases hx : inR s 0 ((ss.length : Int) - 1)
  · have HE := hid (HOT.out.trans (open_out hx))
    clear hx hg1
    go_wp2
    go_ret
    exact ⟨by rw [HE.out]; rfl, HW.out⟩
  have hx2 : 0 ≤ s ∧ s < (ss.length : Int) := by unfold inR at hx; simp at hx; omega
  obtain ⟨k, rfl⟩ : ∃ k : Nat, s = (k : Int) := ⟨s.toNat, by omega⟩
  have hkl : k < ss.length := by omega
  have hm := HMM.out
  obtain ⟨g3, o3, vc, ve, ea, hg3, r0, _, _, _, _, _, _, _⟩ := HV1.out.at hkl
  subst ea
  obtain ⟨g4, o4, ea, hg4, r1⟩ := HM1.out.at (show k < ch.marks.length by omega)
  subst ea
  have HE := hid (HOT.out.trans (open_in hx))
  rw [Int.toNat_natCast, PJ_eq hkl, fA_eq (show k < ch.marks.length by omega)] at HE
  have t1 : (k : Int) < (ss.length : Int) := by omega
  have t2 : (k : Int) < (ch.marks.length : Int) := by omega
  have hml : ch.marks.length ≤ 1048576 := by omega
  have p4 := HP41.out
  generalize ss[k].kind = kd at *
  generalize ch.marks[k] = ac at *
  clear hx hx2 hm HMM HOT HV1 HM1 HP41
  cases hd : (kd == 2)
  · rw [hd, Bool.false_and] at HE
    go_wp2
    go_ret
    exact ⟨by rw [HE.out]; rfl, HW.out⟩
  · rw [hd, Bool.true_and] at HE
    cases he : (ac == 1)
    · rw [he] at HE
      go_wp2
      go_ret
      exact ⟨by rw [HE.out]; rfl, HW.out⟩
    · rw [he] at HE
      go_wp2
      go_ret
      exact ⟨by rw [HE.out]; rfl, HW.out⟩
set_option maxRecDepth 100000 in
set_option maxHeartbeats 16000000 in
theorem specFault (B P : Nat) (d : DeskD) (vp vi vc : Value) (w : World) (hs : Small 1048576 d) (ha : At w B vp vi vc d) (hP : w.heap[P]? = some (.cells #[vp, vi, .int .i64 d.eng.now, vc] 30)) :
    Calls Tryz.prog 105 #[.pointer (some ⟨P, 0, none⟩)] w fun z w' => z = .returned (.int .i64 (deskC d)) ∧ Below w.heap.size w w' := by
  obtain ⟨⟨a1, k1, rfl⟩, ⟨a2, k2, rfl⟩, a3, k3, rfl⟩ := ha.slices
  have hl2 := hs.eng.insts.1
  have hl3 := hs.claims
  have HE := hid (specFaultAtE B P d.eng _ _ w hs.eng ha.eng ⟨blk_lt hP, blk_cell hP 0, blk_cell hP 1, blk_cell hP 2⟩)
  have HA := hid ha
  have HS := hid hs
  have HK := hid hP
  have lP := blk_lt hP
  obtain ⟨zz, hzz⟩ : ∃ zz, deskC d = zz := ⟨_, rfl⟩
  rw [hzz]
  have HZZ := hid hzz
  clear ha hs hP hzz
  go_enter Tryz.func105, Tryz.ntmps105
  go_wp2_with fail
  refine HE.out.mono ?_
  rintro z w1 ⟨rfl, hb1⟩
  have HB1 := hid hb1
  have HK1 : Hid (w1.heap[P]? = some (.cells #[.slice a1 d.eng.procs.length k1, .slice a2 d.eng.insts.length k2, .int .i64 d.eng.now, .slice a3 d.claims.length k3] 30)) := hid ((hb1.block _ lP).trans HK.out)
  clear hb1 HE HK lP
  by_cases hz : engC d.eng = 0
  case neg =>
    have HN := hid ((d_eng hz).symm.trans HZZ.out)
    have b0 : (engC d.eng != 0) = true := bne_iff_ne.2 hz
    generalize engC d.eng = pc at *
    clear hz
    go_wp2
    go_ret
    exact ⟨by rw [← HN.out]; rfl, HB1.out⟩
  have HZ := hid hz
  rw [hz]
  have b0 : ((0 : Int) != 0) = false := rfl
  clear hz
  have m3 := blk_cell HK1.out 3
  replace m3 : w1.cell? ⟨P, 3, none⟩ = some (.slice a3 d.claims.length k3) := m3
  have lP := blk_lt HK1.out
  by_cases q : 60 < (d.claims.length : Int)
  · have HN := hid ((d_many HZ.out (show 60 < d.claims.length by omega)).symm.trans HZZ.out)
    go_wp2
    go_ret
    exact ⟨by rw [← HN.out]; rfl, HB1.out⟩
  have HD := hid ((d_rest HZ.out (show ¬ 60 < d.claims.length by omega)).symm.trans HZZ.out)
  have HRS : Hid (zz = firstNZ (claimC d.eng d.claims) ((List.range d.claims.length).drop 0)) := hid (HD.out.symm)
  go_wp2_with fail
  clear m3 lP q HZZ HD
  go_loopw [4, 5] (fun x _ wr => ∃ k : Nat, x = .int .i64 k ∧ k ≤ d.claims.length ∧ Hid (zz = firstNZ (claimC d.eng d.claims) ((List.range d.claims.length).drop k)) ∧ Hid (Below w1.heap.size w1 wr)) (fun x _ _ => d.claims.length - (intOf x).toNat)
  case atStart => exact ⟨0, rfl, Nat.zero_le _, HRS, hid (Below.refl _ _)⟩
  case round =>
    clear HRS
    obtain ⟨k, rfl, hk, HRS, HBr⟩ := hrel
    have hkr := (HBr.out.block _ (blk_lt HK1.out)).trans HK1.out
    have m3 := blk_cell hkr 3
    replace m3 : wr.cell? ⟨P, 3, none⟩ = some (.slice a3 d.claims.length k3) := m3
    have lP := blk_lt hkr
    have HKr := hid hkr
    have HBw := hid (HB1.out.trans (HBr.out.mono HB1.out.size))
    clear hkr
    by_cases hlt : k < d.claims.length
    · obtain ⟨g, o, rfl, hg, c0, c1, c2⟩ := (HA.out.below HBw.out).claims.at hlt
      have t1 : (k : Int) < (d.claims.length : Int) := by omega
      obtain ⟨Q, eQ⟩ : ∃ Q, Q = wr.heap.size := ⟨_, rfl⟩
      obtain ⟨w2, e2⟩ : ∃ w2, w2 = wr.alloc (.cells #[.int .i64 d.claims[k].inst, .int .i64 d.claims[k].step, .int .i64 d.claims[k].user] 143) := ⟨_, rfl⟩
      have hb2 : Below wr.heap.size wr w2 := by rw [e2]; exact (Below.refl _ wr).alloc (Nat.le_refl _) _
      have HB2 := hid (HBr.out.trans (hb2.mono HBr.out.size))
      have HKC2 : Hid (w2.heap[Q]? = some (.cells #[.int .i64 d.claims[k].inst, .int .i64 d.claims[k].step, .int .i64 d.claims[k].user] 143)) := hid (by rw [e2, eQ]; exact new_blk _ _)
      have HKD2 : Hid (w2.heap[P]? = some (.cells #[.slice a1 d.eng.procs.length k1, .slice a2 d.eng.insts.length k2, .int .i64 d.eng.now, .slice (some ⟨g, o, none⟩) d.claims.length k3] 30)) := hid ((hb2.block _ lP).trans HKr.out)
      have hCJ := CJ_eq hlt
      clear hb2
      go_wp2_with fail
      rw [← e2, ← eQ]
      clear e2 eQ m3 c0 c1 c2 lP hg HKr
      have y0 := blk_cell HKC2.out 0
      have y2 := blk_cell HKC2.out 2
      have m1 := blk_cell HKD2.out 1
      replace y0 : w2.cell? ⟨Q, 0, none⟩ = some (.int .i64 d.claims[k].inst) := y0
      replace y2 : w2.cell? ⟨Q, 2, none⟩ = some (.int .i64 d.claims[k].user) := y2
      replace m1 : w2.cell? ⟨P, 1, none⟩ = some (.slice a2 d.eng.insts.length k2) := m1
      have lQ := blk_lt HKC2.out
      have lP := blk_lt HKD2.out
      have HBx := hid (HB1.out.trans (HB2.out.mono HB1.out.size))
      cases hx : hasI d.eng d.claims[k].inst
      · have HN : Hid (zz = 3) := hid (by
          have h1 : oneC d.eng (CJ d.claims k) = 3 := by rw [hCJ]; exact one_range (by rw [hx]; rfl)
          have h2 := c_one (cs := d.claims) (k := k) (e := d.eng) (by rw [h1]; decide)
          rw [HRS.out, rg_bad hlt (by rw [h2, h1]; decide), h2, h1])
        have b1 : inR d.claims[k].inst 0 ((d.eng.insts.length : Int) - 1) = false := hx
        clear hx hCJ
        go_quiet ((go_at_call 118; exact Calls.quiet_of_same (specIn _ _ _ _)))
        go_wp2
        go_ret
        exact ⟨by rw [HN.out]; rfl, Nd.below_drewN HBx.out nq⟩
      have b1 : inR d.claims[k].inst 0 ((d.eng.insts.length : Int) - 1) = true := hx
      cases hu : isU d.claims[k].user
      · have HN : Hid (zz = 3) := hid (by
          have h1 : oneC d.eng (CJ d.claims k) = 3 := by rw [hCJ]; exact one_range (by rw [hx, hu]; rfl)
          have h2 := c_one (cs := d.claims) (k := k) (e := d.eng) (by rw [h1]; decide)
          rw [HRS.out, rg_bad hlt (by rw [h2, h1]; decide), h2, h1])
        clear hx hCJ
        go_quiet (first | (go_at_call 129; exact Calls.quiet_of_same (specUser _ _)) | (go_at_call 118; exact Calls.quiet_of_same (specIn _ _ _ _)))
        go_wp2
        go_ret
        exact ⟨by rw [HN.out]; rfl, Nd.below_drewN HBx.out nq⟩
      have hxu : (hasI d.eng d.claims[k].inst && isU d.claims[k].user) = true := by rw [hx, hu]; rfl
      obtain ⟨i0, i1, i2⟩ := hasI_in hx
      clear hx
      go_quiet (first | (go_at_call 129; exact Calls.quiet_of_same (specUser _ _)) | (go_at_call 118; exact Calls.quiet_of_same (specIn _ _ _ _)))
      go_wp2
      have HB3 := hid (Nd.below_drewN HB2.out nq)
      have HKC3 : Hid ((w2.drewN nq).heap[Q]? = some (.cells #[.int .i64 d.claims[k].inst, .int .i64 d.claims[k].step, .int .i64 d.claims[k].user] 143)) := hid HKC2.out
      have HKD3 : Hid ((w2.drewN nq).heap[P]? = some (.cells #[.slice a1 d.eng.procs.length k1, .slice a2 d.eng.insts.length k2, .int .i64 d.eng.now, .slice (some ⟨g, o, none⟩) d.claims.length k3] 30)) := hid HKD2.out
      have y0 : (w2.drewN nq).cell? ⟨Q, 0, none⟩ = some (.int .i64 d.claims[k].inst) := y0
      have lQ : Q < (w2.drewN nq).heap.size := lQ
      have lP : P < (w2.drewN nq).heap.size := lP
      clear y2 m1 HB2 HKC2 HKD2 HBx b1 hu
      generalize w2.drewN nq = w3 at *
      have y1 := blk_cell HKC3.out 1
      replace y1 : w3.cell? ⟨Q, 1, none⟩ = some (.int .i64 d.claims[k].step) := y1
      have HBx := hid (HB1.out.trans (HB3.out.mono HB1.out.size))
      have HO : Hid (∀ q, Calls Tryz.prog 130 #[.pointer (some ⟨P, 0, none⟩), .int .i64 d.claims[k].inst, .int .i64 d.claims[k].step] (w3.drewN q) fun z w' => z = .returned (.bool (openT d.eng d.claims[k].inst d.claims[k].step)) ∧ ∃ n, w' = (w3.drewN q).drewN n) := hid (fun q => by
        have h := specOpen B P d.eng _ _ d.claims[k].inst.toNat d.claims[k].step (w3.drewN q) HS.out.eng (HA.out.below (Nd.below_drewN HBx.out q)).eng ⟨lP, blk_cell HKD3.out 0, blk_cell HKD3.out 1, blk_cell HKD3.out 2⟩ i1 HZ.out
        rw [Int.toNat_of_nonneg i0] at h
        exact h)
      cases ho : openT d.eng d.claims[k].inst d.claims[k].step
      · have HN : Hid (zz = 4) := hid (by
          have h1 : oneC d.eng (CJ d.claims k) = 4 := by rw [hCJ]; exact one_none hxu ho
          have h2 := c_one (cs := d.claims) (k := k) (e := d.eng) (by rw [h1]; decide)
          rw [HRS.out, rg_bad hlt (by rw [h2, h1]; decide), h2, h1])
        rw [ho] at HO
        clear ho hxu hCJ i0 i1 i2
        go_quiet ((go_at_call 130; exact Calls.quiet_of (HO.out _)))
        go_wp2
        go_ret
        exact ⟨by rw [HN.out]; rfl, Nd.below_drewN HBx.out nq⟩
      have hone : oneC d.eng (CJ d.claims k) = 0 := by rw [hCJ]; exact one_ok hxu ho
      rw [ho] at HO
      clear ho hxu i0 i1 i2 HBx
      go_quiet ((go_at_call 130; exact Calls.quiet_of (HO.out _)))
      go_wp2
      have HB4 := hid (Nd.below_drewN HB3.out nq)
      have HKC4 : Hid ((w3.drewN nq).heap[Q]? = some (.cells #[.int .i64 d.claims[k].inst, .int .i64 d.claims[k].step, .int .i64 d.claims[k].user] 143)) := hid HKC3.out
      have HKD4 : Hid ((w3.drewN nq).heap[P]? = some (.cells #[.slice a1 d.eng.procs.length k1, .slice a2 d.eng.insts.length k2, .int .i64 d.eng.now, .slice (some ⟨g, o, none⟩) d.claims.length k3] 30)) := hid HKD3.out
      clear y0 y1 lQ lP HO HKC3 HKD3 HB3
      generalize w3.drewN nq = w4 at *
      rcases Nat.eq_zero_or_pos k with hk0 | hk0
      · have HX := hid (HRS.out.trans (rg_next hlt (c_first hone (by omega))))
        have d0 : decide ((0 : Int) < (k : Int)) = false := by simp; omega
        have d0' : decide (0 < k) = false := by simp; omega
        clear HRS hCJ hone hk0
        go_wp2
        go_quiet (fail)
        have HB5 := hid (Nd.below_drewN HB4.out nq)
        clear d0 d0' HB4 HKC4 HKD4
        generalize w4.drewN nq = w5 at *
        go_wp2
        exact ⟨⟨k + 1, by simp, by omega, HX, HB5⟩, by simp [intOf]; omega⟩
      · obtain ⟨j, ej⟩ : ∃ j, k = j + 1 := ⟨k - 1, by omega⟩
        have hj : j < d.claims.length := by omega
        obtain ⟨g', o', eg, hg', cj0, cj1, cj2⟩ := (HA.out.below (HB1.out.trans (HB4.out.mono HB1.out.size))).claims.at hj
        cases eg
        have HCJ : Hid (w4.cell? ⟨g, o + j * 3, none⟩ = some (.int .i64 d.claims[j].inst) ∧ w4.cell? ⟨g, o + j * 3 + 1, none⟩ = some (.int .i64 d.claims[j].step) ∧ w4.cell? ⟨g, o + j * 3 + 2, none⟩ = some (.int .i64 d.claims[j].user)) := hid ⟨cj0, cj1, cj2⟩
        have HGL := hid hg'
        have d0 : decide ((0 : Int) < (k : Int)) = true := by simp; omega
        have d1 : (0 : Int) < (k : Int) := by omega
        have d1' : decide (0 < k) = true := by simp; omega
        have t2 : (j : Int) < (d.claims.length : Int) := by omega
        have hwr : IntKind.i64.wrap ((k : Int) - 1) = (j : Int) := by rw [IntWalk.i64_in _ (by omega)]; omega
        have hCK : CJ d.claims (k - 1) = d.claims[j] := by rw [ej, Nat.add_sub_cancel, CJ_eq hj]
        clear cj0 cj1 cj2 hg'
        cases hah : aheadC d.claims[j] d.claims[k]
        · have HN : Hid (zz = 1) := hid (by
            have h1 := c_form (cs := d.claims) (k := k) (e := d.eng) hone hk0 (by rw [hCK, hCJ]; exact hah)
            rw [HRS.out, rg_bad hlt (by rw [h1]; decide), h1])
          clear hCJ hCK ej hone
          have HSd : Hid (w4.drew.heap[P]? = some (.cells #[.slice a1 d.eng.procs.length k1, .slice a2 d.eng.insts.length k2, .int .i64 d.eng.now, .slice (some ⟨g, o, none⟩) d.claims.length k3] 30) ∧ w4.drew.heap[Q]? = some (.cells #[.int .i64 d.claims[k].inst, .int .i64 d.claims[k].step, .int .i64 d.claims[k].user] 143) ∧ w4.drew.cell? ⟨g, o + j * 3, none⟩ = some (.int .i64 d.claims[j].inst) ∧ w4.drew.cell? ⟨g, o + j * 3 + 1, none⟩ = some (.int .i64 d.claims[j].step) ∧ w4.drew.cell? ⟨g, o + j * 3 + 2, none⟩ = some (.int .i64 d.claims[j].user)) := hid ⟨HKD4.out, HKC4.out, HCJ.out⟩
          go_wp2
          refine wp_region_held_drew (S := fun wx => wx.heap[P]? = some (.cells #[.slice a1 d.eng.procs.length k1, .slice a2 d.eng.insts.length k2, .int .i64 d.eng.now, .slice (some ⟨g, o, none⟩) d.claims.length k3] 30) ∧ wx.heap[Q]? = some (.cells #[.int .i64 d.claims[k].inst, .int .i64 d.claims[k].step, .int .i64 d.claims[k].user] 143) ∧ wx.cell? ⟨g, o + j * 3, none⟩ = some (.int .i64 d.claims[j].inst) ∧ wx.cell? ⟨g, o + j * 3 + 1, none⟩ = some (.int .i64 d.claims[j].step) ∧ wx.cell? ⟨g, o + j * 3 + 2, none⟩ = some (.int .i64 d.claims[j].user)) (by kernel_rfl) HSd.out (fun hHeld => ?_)
          refine wpAnyH_take (i := 0) (v := .int .i64 (k : Int)) rfl (by kernel_rfl) (by kernel_rfl) (by kernel_rfl) (fun _ _ _ h => h) (Or.inl ⟨by kernel_rfl, by intro w hSw; (try dsimp only at hSw); go_simp⟩) (by assumption) ?_
          simp only [Act.put, List.setIfInBounds_toArray, List.set_cons_zero, List.set_cons_succ]
          refine wpAnyH_take (i := 1) (v := .bool true) rfl (by kernel_rfl) (by kernel_rfl) (by kernel_rfl) (fun _ _ _ h => h) (Or.inl ⟨by kernel_rfl, by intro w hSw; (try dsimp only at hSw); go_simp⟩) (by assumption) ?_
          simp only [Act.put, List.setIfInBounds_toArray, List.set_cons_zero, List.set_cons_succ]
          refine wpAnyH_take (i := 2) (v := .bool true) rfl (by kernel_rfl) (by kernel_rfl) (by kernel_rfl) (fun _ _ _ h => h) (Or.inl ⟨by kernel_rfl, by intro w hSw; (try dsimp only at hSw); go_simp⟩) (by assumption) ?_
          simp only [Act.put, List.setIfInBounds_toArray, List.set_cons_zero, List.set_cons_succ]
          refine wpAnyH_take (i := 3) (v := .pointer (some ⟨P, 0, none⟩)) rfl (by kernel_rfl) (by kernel_rfl) (by kernel_rfl) (fun _ _ _ h => h) (Or.inl ⟨by kernel_rfl, by intro w hSw; (try dsimp only at hSw); go_simp⟩) (by assumption) ?_
          simp only [Act.put, List.setIfInBounds_toArray, List.set_cons_zero, List.set_cons_succ]
          refine wpAnyH_take (i := 4) (v := .pointer (some ⟨P, 0, none⟩)) rfl (by kernel_rfl) (by kernel_rfl) (by kernel_rfl) (fun _ _ _ h => h) (Or.inl ⟨by kernel_rfl, by intro w hSw; (try dsimp only at hSw); go_simp⟩) (by assumption) ?_
          simp only [Act.put, List.setIfInBounds_toArray, List.set_cons_zero, List.set_cons_succ]
          refine wpAnyH_take (i := 5) (v := .pointer (some ⟨P, 3, none⟩)) rfl (by kernel_rfl) (by kernel_rfl) (by kernel_rfl) (fun _ _ _ h => h) (Or.inl ⟨by kernel_rfl, by intro w hSw; (try dsimp only at hSw); go_simp⟩) (by assumption) ?_
          simp only [Act.put, List.setIfInBounds_toArray, List.set_cons_zero, List.set_cons_succ]
          refine wpAnyH_take (i := 6) (v := .slice (some ⟨g, o, none⟩) d.claims.length k3) rfl (by kernel_rfl) (by kernel_rfl) (by kernel_rfl) (fun _ _ _ h => h) (Or.inl ⟨by kernel_rfl, by intro w hSw; (try dsimp only at hSw); obtain ⟨h1, h2, h3, h4, h5⟩ := hSw; have m0 := Ch.blk_cell h1 0; have m1 := Ch.blk_cell h1 1; have m2 := Ch.blk_cell h1 2; have m3 := Ch.blk_cell h1 3; clear h1 h2 h3 h4 h5; go_simp⟩) (by assumption) ?_
          simp only [Act.put, List.setIfInBounds_toArray, List.set_cons_zero, List.set_cons_succ]
          refine wpAnyH_take (i := 7) (v := .int .i64 (k : Int)) rfl (by kernel_rfl) (by kernel_rfl) (by kernel_rfl) (fun _ _ _ h => h) (Or.inl ⟨by kernel_rfl, by intro w hSw; (try dsimp only at hSw); go_simp⟩) (by assumption) ?_
          simp only [Act.put, List.setIfInBounds_toArray, List.set_cons_zero, List.set_cons_succ]
          refine wpAnyH_take (i := 8) (v := .int .i64 (j : Int)) rfl (by kernel_rfl) (by kernel_rfl) (by kernel_rfl) (fun _ _ _ h => h) (Or.inl ⟨by kernel_rfl, by intro w hSw; (try dsimp only at hSw); go_simp⟩) (by assumption) ?_
          simp only [Act.put, List.setIfInBounds_toArray, List.set_cons_zero, List.set_cons_succ]
          refine wpAnyH_take (i := 9) (v := .pointer (some ⟨g, o + j * 3, none⟩)) rfl (by kernel_rfl) (by kernel_rfl) (by kernel_rfl) (fun _ _ _ h => h) (Or.inl ⟨by kernel_rfl, by intro w hSw; (try dsimp only at hSw); go_simp⟩) (by assumption) ?_
          simp only [Act.put, List.setIfInBounds_toArray, List.set_cons_zero, List.set_cons_succ]
          refine wpAnyH_take (i := 10) (v := .agg #[.int .i64 d.claims[j].inst, .int .i64 d.claims[j].step, .int .i64 d.claims[j].user]) rfl (by kernel_rfl) (by kernel_rfl) (by kernel_rfl) (fun _ _ _ h => h) (Or.inl ⟨by kernel_rfl, by intro w hSw; (try dsimp only at hSw); obtain ⟨h1, h2, h3, h4, h5⟩ := hSw; clear h1 h2; go_simp⟩) (by assumption) ?_
          simp only [Act.put, List.setIfInBounds_toArray, List.set_cons_zero, List.set_cons_succ]
          refine wpAnyH_take (i := 11) (v := .agg #[.int .i64 d.claims[k].inst, .int .i64 d.claims[k].step, .int .i64 d.claims[k].user]) rfl (by kernel_rfl) (by kernel_rfl) (by kernel_rfl) (fun _ _ _ h => h) (Or.inl ⟨by kernel_rfl, by intro w hSw; (try dsimp only at hSw); obtain ⟨h1, h2, h3, h4, h5⟩ := hSw; have m0 := Ch.blk_cell h2 0; have m1 := Ch.blk_cell h2 1; have m2 := Ch.blk_cell h2 2; clear h1 h2 h3 h4 h5; go_simp⟩) (by assumption) ?_
          simp only [Act.put, List.setIfInBounds_toArray, List.set_cons_zero, List.set_cons_succ]
          refine wpAnyH_ready (rs := [12]) (by kernel_rfl) (by simp) ?_
          refine AllReadyH.cons rfl (fun K hK => ?_) AllReadyH.nil
          go_simp
          go_at_call 85
          refine (specAhead d.claims[j] d.claims[k] _).mono ?_
          rintro z w5 ⟨rfl, hb5⟩
          rw [hah]
          have hb5 : Below w4.heap.size w4 w5 := ((Below.refl w4.heap.size w4).drew).trans (hb5.mono ((Below.refl w4.heap.size w4).drew).size)
          have HKC5 : Hid (w5.heap[Q]? = some (.cells #[.int .i64 d.claims[k].inst, .int .i64 d.claims[k].step, .int .i64 d.claims[k].user] 143)) := hid ((hb5.block _ (blk_lt HKC4.out)).trans HKC4.out)
          have HKD5 : Hid (w5.heap[P]? = some (.cells #[.slice a1 d.eng.procs.length k1, .slice a2 d.eng.insts.length k2, .int .i64 d.eng.now, .slice (some ⟨g, o, none⟩) d.claims.length k3] 30)) := hid ((hb5.block _ (blk_lt HKD4.out)).trans HKD4.out)
          have HCJ5 : Hid (w5.cell? ⟨g, o + j * 3, none⟩ = some (.int .i64 d.claims[j].inst) ∧ w5.cell? ⟨g, o + j * 3 + 1, none⟩ = some (.int .i64 d.claims[j].step) ∧ w5.cell? ⟨g, o + j * 3 + 2, none⟩ = some (.int .i64 d.claims[j].user)) := hid ⟨old_cell hb5 HGL.out HCJ.out.1, old_cell hb5 HGL.out HCJ.out.2.1, old_cell hb5 HGL.out HCJ.out.2.2⟩
          have HB5 := hid (HB4.out.trans (hb5.mono HB4.out.size))
          clear hb5
          go_wp2_with fail
          refine hK.out _ _ ⟨HKD5.out, HKC5.out, HCJ5.out⟩ (fun hHeld => ?_)
          clear hK K
          try simp only [Act.put, List.setIfInBounds_toArray, List.set_cons_zero, List.set_cons_succ]
          refine wpAnyH_take (i := 13) (v := .bool true) rfl (by kernel_rfl) (by kernel_rfl) (by kernel_rfl) (fun _ _ _ h => h) (Or.inl ⟨by kernel_rfl, by intro w hSw; (try dsimp only at hSw); go_simp⟩) (by assumption) ?_
          simp only [Act.put, List.setIfInBounds_toArray, List.set_cons_zero, List.set_cons_succ]
          refine wpAnyH_take (i := 14) (v := .bool true) rfl (by kernel_rfl) (by kernel_rfl) (by kernel_rfl) (fun _ _ _ h => h) (Or.inl ⟨by kernel_rfl, by intro w hSw; (try dsimp only at hSw); go_simp⟩) (by assumption) ?_
          simp only [Act.put, List.setIfInBounds_toArray, List.set_cons_zero, List.set_cons_succ]
          refine wpAnyH_done (by kernel_rfl) ?_ _
          simp only [List.getElem_toArray, List.getElem_cons_succ, List.getElem_cons_zero, Act.put, List.setIfInBounds_toArray, List.set_cons_zero, List.set_cons_succ]
          clear hHeld HSd HKC4 HKD4 HCJ HB4 HCJ5 HKC5 HKD5 hah
          go_wp2
          go_ret
          exact ⟨by rw [HN.out]; rfl, HB1.out.trans (HB5.out.mono HB1.out.size)⟩
        · have HX := hid (HRS.out.trans (rg_next hlt (c_ok hone (by rw [hCK, hCJ]; exact hah))))
          clear hCJ hCK ej hone HRS
          have HSd : Hid (w4.drew.heap[P]? = some (.cells #[.slice a1 d.eng.procs.length k1, .slice a2 d.eng.insts.length k2, .int .i64 d.eng.now, .slice (some ⟨g, o, none⟩) d.claims.length k3] 30) ∧ w4.drew.heap[Q]? = some (.cells #[.int .i64 d.claims[k].inst, .int .i64 d.claims[k].step, .int .i64 d.claims[k].user] 143) ∧ w4.drew.cell? ⟨g, o + j * 3, none⟩ = some (.int .i64 d.claims[j].inst) ∧ w4.drew.cell? ⟨g, o + j * 3 + 1, none⟩ = some (.int .i64 d.claims[j].step) ∧ w4.drew.cell? ⟨g, o + j * 3 + 2, none⟩ = some (.int .i64 d.claims[j].user)) := hid ⟨HKD4.out, HKC4.out, HCJ.out⟩
          go_wp2
          refine wp_region_held_drew (S := fun wx => wx.heap[P]? = some (.cells #[.slice a1 d.eng.procs.length k1, .slice a2 d.eng.insts.length k2, .int .i64 d.eng.now, .slice (some ⟨g, o, none⟩) d.claims.length k3] 30) ∧ wx.heap[Q]? = some (.cells #[.int .i64 d.claims[k].inst, .int .i64 d.claims[k].step, .int .i64 d.claims[k].user] 143) ∧ wx.cell? ⟨g, o + j * 3, none⟩ = some (.int .i64 d.claims[j].inst) ∧ wx.cell? ⟨g, o + j * 3 + 1, none⟩ = some (.int .i64 d.claims[j].step) ∧ wx.cell? ⟨g, o + j * 3 + 2, none⟩ = some (.int .i64 d.claims[j].user)) (by kernel_rfl) HSd.out (fun hHeld => ?_)
          refine wpAnyH_take (i := 0) (v := .int .i64 (k : Int)) rfl (by kernel_rfl) (by kernel_rfl) (by kernel_rfl) (fun _ _ _ h => h) (Or.inl ⟨by kernel_rfl, by intro w hSw; (try dsimp only at hSw); go_simp⟩) (by assumption) ?_
          simp only [Act.put, List.setIfInBounds_toArray, List.set_cons_zero, List.set_cons_succ]
          refine wpAnyH_take (i := 1) (v := .bool true) rfl (by kernel_rfl) (by kernel_rfl) (by kernel_rfl) (fun _ _ _ h => h) (Or.inl ⟨by kernel_rfl, by intro w hSw; (try dsimp only at hSw); go_simp⟩) (by assumption) ?_
          simp only [Act.put, List.setIfInBounds_toArray, List.set_cons_zero, List.set_cons_succ]
          refine wpAnyH_take (i := 2) (v := .bool true) rfl (by kernel_rfl) (by kernel_rfl) (by kernel_rfl) (fun _ _ _ h => h) (Or.inl ⟨by kernel_rfl, by intro w hSw; (try dsimp only at hSw); go_simp⟩) (by assumption) ?_
          simp only [Act.put, List.setIfInBounds_toArray, List.set_cons_zero, List.set_cons_succ]
          refine wpAnyH_take (i := 3) (v := .pointer (some ⟨P, 0, none⟩)) rfl (by kernel_rfl) (by kernel_rfl) (by kernel_rfl) (fun _ _ _ h => h) (Or.inl ⟨by kernel_rfl, by intro w hSw; (try dsimp only at hSw); go_simp⟩) (by assumption) ?_
          simp only [Act.put, List.setIfInBounds_toArray, List.set_cons_zero, List.set_cons_succ]
          refine wpAnyH_take (i := 4) (v := .pointer (some ⟨P, 0, none⟩)) rfl (by kernel_rfl) (by kernel_rfl) (by kernel_rfl) (fun _ _ _ h => h) (Or.inl ⟨by kernel_rfl, by intro w hSw; (try dsimp only at hSw); go_simp⟩) (by assumption) ?_
          simp only [Act.put, List.setIfInBounds_toArray, List.set_cons_zero, List.set_cons_succ]
          refine wpAnyH_take (i := 5) (v := .pointer (some ⟨P, 3, none⟩)) rfl (by kernel_rfl) (by kernel_rfl) (by kernel_rfl) (fun _ _ _ h => h) (Or.inl ⟨by kernel_rfl, by intro w hSw; (try dsimp only at hSw); go_simp⟩) (by assumption) ?_
          simp only [Act.put, List.setIfInBounds_toArray, List.set_cons_zero, List.set_cons_succ]
          refine wpAnyH_take (i := 6) (v := .slice (some ⟨g, o, none⟩) d.claims.length k3) rfl (by kernel_rfl) (by kernel_rfl) (by kernel_rfl) (fun _ _ _ h => h) (Or.inl ⟨by kernel_rfl, by intro w hSw; (try dsimp only at hSw); obtain ⟨h1, h2, h3, h4, h5⟩ := hSw; have m0 := Ch.blk_cell h1 0; have m1 := Ch.blk_cell h1 1; have m2 := Ch.blk_cell h1 2; have m3 := Ch.blk_cell h1 3; clear h1 h2 h3 h4 h5; go_simp⟩) (by assumption) ?_
          simp only [Act.put, List.setIfInBounds_toArray, List.set_cons_zero, List.set_cons_succ]
          refine wpAnyH_take (i := 7) (v := .int .i64 (k : Int)) rfl (by kernel_rfl) (by kernel_rfl) (by kernel_rfl) (fun _ _ _ h => h) (Or.inl ⟨by kernel_rfl, by intro w hSw; (try dsimp only at hSw); go_simp⟩) (by assumption) ?_
          simp only [Act.put, List.setIfInBounds_toArray, List.set_cons_zero, List.set_cons_succ]
          refine wpAnyH_take (i := 8) (v := .int .i64 (j : Int)) rfl (by kernel_rfl) (by kernel_rfl) (by kernel_rfl) (fun _ _ _ h => h) (Or.inl ⟨by kernel_rfl, by intro w hSw; (try dsimp only at hSw); go_simp⟩) (by assumption) ?_
          simp only [Act.put, List.setIfInBounds_toArray, List.set_cons_zero, List.set_cons_succ]
          refine wpAnyH_take (i := 9) (v := .pointer (some ⟨g, o + j * 3, none⟩)) rfl (by kernel_rfl) (by kernel_rfl) (by kernel_rfl) (fun _ _ _ h => h) (Or.inl ⟨by kernel_rfl, by intro w hSw; (try dsimp only at hSw); go_simp⟩) (by assumption) ?_
          simp only [Act.put, List.setIfInBounds_toArray, List.set_cons_zero, List.set_cons_succ]
          refine wpAnyH_take (i := 10) (v := .agg #[.int .i64 d.claims[j].inst, .int .i64 d.claims[j].step, .int .i64 d.claims[j].user]) rfl (by kernel_rfl) (by kernel_rfl) (by kernel_rfl) (fun _ _ _ h => h) (Or.inl ⟨by kernel_rfl, by intro w hSw; (try dsimp only at hSw); obtain ⟨h1, h2, h3, h4, h5⟩ := hSw; clear h1 h2; go_simp⟩) (by assumption) ?_
          simp only [Act.put, List.setIfInBounds_toArray, List.set_cons_zero, List.set_cons_succ]
          refine wpAnyH_take (i := 11) (v := .agg #[.int .i64 d.claims[k].inst, .int .i64 d.claims[k].step, .int .i64 d.claims[k].user]) rfl (by kernel_rfl) (by kernel_rfl) (by kernel_rfl) (fun _ _ _ h => h) (Or.inl ⟨by kernel_rfl, by intro w hSw; (try dsimp only at hSw); obtain ⟨h1, h2, h3, h4, h5⟩ := hSw; have m0 := Ch.blk_cell h2 0; have m1 := Ch.blk_cell h2 1; have m2 := Ch.blk_cell h2 2; clear h1 h2 h3 h4 h5; go_simp⟩) (by assumption) ?_
          simp only [Act.put, List.setIfInBounds_toArray, List.set_cons_zero, List.set_cons_succ]
          refine wpAnyH_ready (rs := [12]) (by kernel_rfl) (by simp) ?_
          refine AllReadyH.cons rfl (fun K hK => ?_) AllReadyH.nil
          go_simp
          go_at_call 85
          refine (specAhead d.claims[j] d.claims[k] _).mono ?_
          rintro z w5 ⟨rfl, hb5⟩
          rw [hah]
          have hb5 : Below w4.heap.size w4 w5 := ((Below.refl w4.heap.size w4).drew).trans (hb5.mono ((Below.refl w4.heap.size w4).drew).size)
          have HKC5 : Hid (w5.heap[Q]? = some (.cells #[.int .i64 d.claims[k].inst, .int .i64 d.claims[k].step, .int .i64 d.claims[k].user] 143)) := hid ((hb5.block _ (blk_lt HKC4.out)).trans HKC4.out)
          have HKD5 : Hid (w5.heap[P]? = some (.cells #[.slice a1 d.eng.procs.length k1, .slice a2 d.eng.insts.length k2, .int .i64 d.eng.now, .slice (some ⟨g, o, none⟩) d.claims.length k3] 30)) := hid ((hb5.block _ (blk_lt HKD4.out)).trans HKD4.out)
          have HCJ5 : Hid (w5.cell? ⟨g, o + j * 3, none⟩ = some (.int .i64 d.claims[j].inst) ∧ w5.cell? ⟨g, o + j * 3 + 1, none⟩ = some (.int .i64 d.claims[j].step) ∧ w5.cell? ⟨g, o + j * 3 + 2, none⟩ = some (.int .i64 d.claims[j].user)) := hid ⟨old_cell hb5 HGL.out HCJ.out.1, old_cell hb5 HGL.out HCJ.out.2.1, old_cell hb5 HGL.out HCJ.out.2.2⟩
          have HB5 := hid (HB4.out.trans (hb5.mono HB4.out.size))
          clear hb5
          go_wp2_with fail
          refine hK.out _ _ ⟨HKD5.out, HKC5.out, HCJ5.out⟩ (fun hHeld => ?_)
          clear hK K
          try simp only [Act.put, List.setIfInBounds_toArray, List.set_cons_zero, List.set_cons_succ]
          refine wpAnyH_take (i := 13) (v := .bool false) rfl (by kernel_rfl) (by kernel_rfl) (by kernel_rfl) (fun _ _ _ h => h) (Or.inl ⟨by kernel_rfl, by intro w hSw; (try dsimp only at hSw); go_simp⟩) (by assumption) ?_
          simp only [Act.put, List.setIfInBounds_toArray, List.set_cons_zero, List.set_cons_succ]
          refine wpAnyH_take (i := 14) (v := .bool false) rfl (by kernel_rfl) (by kernel_rfl) (by kernel_rfl) (fun _ _ _ h => h) (Or.inl ⟨by kernel_rfl, by intro w hSw; (try dsimp only at hSw); go_simp⟩) (by assumption) ?_
          simp only [Act.put, List.setIfInBounds_toArray, List.set_cons_zero, List.set_cons_succ]
          refine wpAnyH_done (by kernel_rfl) ?_ _
          simp only [List.getElem_toArray, List.getElem_cons_succ, List.getElem_cons_zero, Act.put, List.setIfInBounds_toArray, List.set_cons_zero, List.set_cons_succ]
          clear hHeld HSd HKC4 HKD4 HCJ HB4 HCJ5 HKC5 HKD5 hah
          clear d0 d1 d1' hwr hk0
          go_wp2
          exact ⟨⟨k + 1, by simp, by omega, HX, HB5⟩, by simp [intOf]; omega⟩
    · have HN : Hid (zz = 0) := hid (by rw [HRS.out, rg_end (by omega)])
      go_wp2
      go_ret
      exact ⟨by rw [HN.out]; rfl, HBw.out⟩
end Dk
end Go.Proofs.YtccklgopcjilcaaGreatDoor
