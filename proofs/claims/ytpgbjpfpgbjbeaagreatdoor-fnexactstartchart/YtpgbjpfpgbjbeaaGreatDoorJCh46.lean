/- DoneChart, TickChart and MailChart of the program. Condition: the table of rules lies as its initialiser lays it. -/
import Derived.Test.YtpgbjpfpgbjbeaaGreatDoorJCh45
import Derived.Deep.LoopGhost
namespace Go.Proofs.YtpgbjpfpgbjbeaaGreatDoor
open Go.RowKit Go.Deep
set_option linter.unusedVariables false
set_option linter.unusedSimpArgs false
namespace Kv
open Ex (inR evalCode evalVal vFault hid)
open St (StepD)
open Ch (RunD)
open Pf
open Kc (CS upd zer endOf stopped idle kid go mE mO Ok KAt Rides kval PBlk isOn chartC csOf fA fD ints CPost courseOf of_c kcs_new cs0)
open Ku (UPost goU entering)
set_option maxRecDepth 100000 in
set_option maxHeartbeats 16000000 in
theorem implDone (ss : List StepD) (r : RunD) (step : Int) (vars : List Int) (v v1 v2 v3 vv : Value) (w : World) (hsm : St.Small 1048576 ss) (hs : Ch.Small 1048576 r) (hlv : vars.length ≤ 1048576) (ha : St.At w 0 v ss) (hc : Ch.At w 0 v1 v2 v3 r) (hv : Nu.At w 0 vv vars) (hr : Rul w) :
    Calls Tryz.prog 22 #[v, .agg #[.int .i64 r.status, .int .i64 r.now, v1, v2, v3], .int .i64 step, vv] w (IPost (doneC ss r step vars) (doneR ss r step vars) w) := by
  obtain ⟨a, cap, rfl⟩ := ha.slice
  obtain ⟨av, cv, rfl⟩ := hv.slice
  obtain ⟨a1, c1, rfl⟩ := hc.vars.slice
  obtain ⟨a2, c2, rfl⟩ := hc.marks.slice
  obtain ⟨a3, c3, rfl⟩ := hc.dues.slice
  obtain ⟨w0, e0⟩ : ∃ w0, w0 = (w.alloc (.cells #[.int .i64 r.status, .int .i64 r.now, .slice a1 r.vars.length c1, .slice a2 r.marks.length c2, .slice a3 r.dues.length c3] 26)).alloc (.cells #[.int .i64 0, .int .i64 0, .int .i64 0, .slice none 0 0, .slice none 0 0, .slice none 0 0] 28) := ⟨_, rfl⟩
  have hb0 : Below w.heap.size w w0 := by rw [e0]; exact ((Below.refl _ w).alloc (Nat.le_refl _) _).alloc (by simp) _
  have hk0 : w0.heap[(w.heap.size + 1)]? = some (.cells #[.int .i64 0, .int .i64 0, .int .i64 0, .slice none 0 0, .slice none 0 0, .slice none 0 0] 28) := by rw [e0]; exact Ch.new_at (by simp) _
  have hw0 : w.heap.size + 1 < w0.heap.size := Ch.blk_lt hk0
  have HF := hid (courseOf ss r _ _ _ _ w0 hsm hs (ha.below hb0) (hc.below hb0) (hr.below hb0 hr.lt))
  have HVV := hid (hv.below hb0)
  have HLV := hid hlv
  have HB0 := hid hb0
  clear ha hc hsm hr hb0 hs hv hlv
  go_enter Tryz.func22, Tryz.ntmps22
  go_wp2_with fail
  rw [← e0]
  clear e0
  refine HF.out.mono ?_
  rintro e w1 ⟨h1, hb1⟩
  have hk1 := rb_below hk0 hb1
  have HB1 := hid (HB0.out.trans (hb1.mono HB0.out.size))
  have HV1 := hid (HVV.out.below hb1)
  clear HF HB0 hb1 hk0 HVV
  rcases h1 with ⟨hne, rfl⟩ | ⟨hz, wg, R, u, rfl, hk, hle⟩
  · have b0 : (chartC ss r != 0) = true := bne_iff_ne.2 hne
    have HX := hid (d_chart (step := step) (vars := vars) hne)
    clear hne
    have f0 := Ch.blk_free hk1 0
    have f1 := Ch.blk_free hk1 1
    have f2 := Ch.blk_free hk1 2
    have f3 := Ch.blk_free hk1 3
    have f4 := Ch.blk_free hk1 4
    have f5 := Ch.blk_free hk1 5
    have g0 : w1.cell? ⟨(w.heap.size + 1), 0, none⟩ = some (.int .i64 0) := Ch.blk_cell hk1 0
    have g1 : w1.cell? ⟨(w.heap.size + 1), 1, none⟩ = some (.int .i64 0) := Ch.blk_cell hk1 1
    have g2 : w1.cell? ⟨(w.heap.size + 1), 2, none⟩ = some (.int .i64 0) := Ch.blk_cell hk1 2
    have g3 : w1.cell? ⟨(w.heap.size + 1), 3, none⟩ = some (.slice none 0 0) := Ch.blk_cell hk1 3
    have g4 : w1.cell? ⟨(w.heap.size + 1), 4, none⟩ = some (.slice none 0 0) := Ch.blk_cell hk1 4
    have g5 : w1.cell? ⟨(w.heap.size + 1), 5, none⟩ = some (.slice none 0 0) := Ch.blk_cell hk1 5
    have gl := Ch.blk_lt hk1
    generalize doneC ss r step vars = tc at *
    generalize doneR ss r step vars = tr at *
    generalize chartC ss r = pf at *
    go_wp2
    refine bodyPost_ret (results_cell_row Tryz.results22 _ _ (w.heap.size + 1) 28 #[.int .i64 (pf), .int .i64 0, .int .i64 0, .slice none 0 0, .slice none 0 0, .slice none 0 0] (0, 0) _ rfl (set6 hk1 _ _ _ _ _ _) Tryz.underlying28 rfl info6) rfl ?_
    exact IPost.bad HX.out HB1.out (by omega)
  · have HZ := hid hz
    have HP := hid (of_c hz).1
    have HOK := hid (ok_of hz)
    have HIV := hid (inv_of hz)
    have hl : ss.length ≤ 24 := by have := (of_p HP.out).1; omega
    have hRl := hk.lt
    have hle1 : w.heap.size + 1 < w1.heap.size := Ch.blk_lt hk1
    have hold := hk.old
    have HK := hid hk
    have HKR := hid hk1
    clear hk hk1 hz
    have HVF := hid (Ex.implVarsB 0 vars _ w1 HLV.out HV1.out)
    go_wp2_with fail
    refine HVF.out.mono ?_
    rintro e w2 ⟨rfl, hb2⟩
    have hk2 := rb_below HKR.out hb2
    have HB2 := hid (HB1.out.trans (hb2.mono HB1.out.size))
    have HV2 := hid (HV1.out.below hb2)
    have HK2 := hid (HK.out.below hb2)
    have hle2 := hb2.size
    clear HVF HV1 HKR HB1 hb2 HK
    by_cases hvf : vFault vars = 0
    · have b2 : (vFault vars != 0) = false := by simp [hvf]
      have H4 := hid (Ex.of_v hvf).1
      have HVF := hid hvf
      have HR2 := hid hk2
      clear hk2 hvf
      have c0 := HK2.out.c0
      obtain ⟨gu, cu, eu, hgu, hgc⟩ := HK2.out.st
      clear hgc
      subst eu
      have hRl2 := HK2.out.lt
      have HHS := hid (Ku.hasStep (some ⟨gu, 0, none⟩) ss.length cu step w2 (by omega))
      by_cases hin : 0 ≤ step ∧ step < (ss.length : Int)
      · rw [show (decide (0 ≤ step) && decide (step < (ss.length : Int))) = true by simp; omega] at HHS
        obtain ⟨k, rfl⟩ : ∃ k : Nat, step = (k : Int) := ⟨step.toNat, by omega⟩
        have hkl : k < ss.length := by omega
        obtain ⟨gu9, cu9, kv, vc, ve, e9, hgu9, d0, d1, d2, d3, d4, d5, d6, d7, d8, hpc⟩ := Ku.KAt.cells HK2.out hkl
        cases e9
        clear d0 d1 d2 d4 d5 d6 d7 d8 hpc
        have hgl : gu < w2.heap.size := Nat.lt_of_lt_of_le hgu HK2.out.bel.size
        have q1 : (k : Int) < (ss.length : Int) := by omega
        have q2 : (0 : Int) ≤ (k : Int) := by omega
        have HTK : Hid (taskOn ss r (k : Int) ↔ ss[k].kind = 2 ∧ fA r k = 1) := hid (by unfold taskOn; rw [Int.toNat_natCast, PJ_eq hkl]; constructor; (intro h; exact h.2.2); (intro h; exact ⟨by omega, by omega, h.1, h.2⟩))
        have HON := hid (isOn wg w2 R _ ss (csOf r) k (by omega) HK2.out)
        clear hin
        by_cases hkd : ss[k].kind = 2
        · have b3 : (ss[k].kind != 2) = false := by simp [hkd]
          by_cases hon : fA r k = 1
          · have HX := hid (d_ok (vars := vars) HZ.out HVF.out (HTK.out.2 ⟨hkd, hon⟩))
            rw [Int.toNat_natCast] at HX
            rw [show ((csOf r).acts k == 1) = true from beq_iff_eq.2 hon] at HON
            clear hkd hon
            obtain ⟨w4, e4⟩ : ∃ w4, w4 = w2.setCells R 3 (ints vars) := ⟨_, rfl⟩
            have hc4 : ∀ ty, (Builtin.copy_ #[23, 23] ty #[.slice (some ⟨R, 3, none⟩) 4 4, .slice av vars.length cv]).run Tryz.prog w2 = .ok (.int .i64 (vars.length : Int)) w4 := fun ty => by
              rw [e4]
              exact HK2.out.copy HV2.out (by rw [H4.out]; omega) (by omega) (by rw [H4.out]; omega) ty
            have HK4 : Hid (KAt wg w4 R (.slice (some ⟨gu, 0, none⟩) ss.length cu) ss { csOf r with vars := vars }) := hid (by rw [e4]; exact HK2.out.varsAll H4.out)
            have HR4 : Hid (Rides R w2 w4) := hid (by rw [e4]; exact Rides.sets R _ _ _)
            have HO4 := hid ((goU (wg := wg) (R := R) (u := .slice (some ⟨gu, 0, none⟩) ss.length cu) HP.out FU).2.2 k _ w4 hkl (fuelO HP.out hkl) (⟨HVF.out, HOK.out.lo, HOK.out.hi⟩ : Ok { csOf r with vars := vars }) HK4.out)
            clear e4
            go_wp2_with (first | (go_at_call 52; refine HHS.out.mono ?_; rintro e w9 ⟨rfl, hw9⟩; replace hw9 := hw9.symm; subst hw9) | (go_at_call 53; refine HON.out.mono ?_; rintro e w9 ⟨rfl, hw9⟩; replace hw9 := hw9.symm; subst hw9))
            refine HO4.out.mono ?_
            rintro e w6 hT
            obtain rfl := hT.1
            have HU := hid hT
            clear hT
            have HRR := hid (HR4.out.trans HU.out.2.2)
            have HB6 := hid (HRR.out.below HB2.out (by omega))
            have HR6 := hid ((HRR.out.block _ (Ch.blk_lt HR2.out) (by omega)).trans HR2.out)
            have HKU := hid HU.out.2.1
            have HRES := hid (resultU _ w6 _ _ ss _ hl HKU.out)
            go_wp2_with fail
            refine HRES.out.mono ?_
            rintro e wz hT
            obtain ⟨v1, v2, v3, rfl, ho, hbz⟩ := hT
            have hkz := rb_below HR6.out hbz
            have f0 := Ch.blk_free hkz 0
            have f1 := Ch.blk_free hkz 1
            have f2 := Ch.blk_free hkz 2
            have f3 := Ch.blk_free hkz 3
            have f4 := Ch.blk_free hkz 4
            have f5 := Ch.blk_free hkz 5
            have g0 : wz.cell? ⟨(w.heap.size + 1), 0, none⟩ = some (.int .i64 0) := Ch.blk_cell hkz 0
            have g1 : wz.cell? ⟨(w.heap.size + 1), 1, none⟩ = some (.int .i64 0) := Ch.blk_cell hkz 1
            have g2 : wz.cell? ⟨(w.heap.size + 1), 2, none⟩ = some (.int .i64 0) := Ch.blk_cell hkz 2
            have g3 : wz.cell? ⟨(w.heap.size + 1), 3, none⟩ = some (.slice none 0 0) := Ch.blk_cell hkz 3
            have g4 : wz.cell? ⟨(w.heap.size + 1), 4, none⟩ = some (.slice none 0 0) := Ch.blk_cell hkz 4
            have g5 : wz.cell? ⟨(w.heap.size + 1), 5, none⟩ = some (.slice none 0 0) := Ch.blk_cell hkz 5
            have gl := Ch.blk_lt hkz
            have HOO := hid ho
            have HBZ := hid hbz
            have HKZ := hid hkz
            obtain ⟨x1, y1, rfl⟩ := Ints.owns_slice ho.vars
            obtain ⟨x2, y2, rfl⟩ := Ints.owns_slice ho.marks
            obtain ⟨x3, y3, rfl⟩ := Ints.owns_slice ho.dues
            clear ho hbz hkz
            generalize runOf ss.length (go ss FU true k { csOf r with vars := vars }) = rr at *
            go_wp2
            refine bodyPost_ret (results_cell_row Tryz.results22 _ _ (w.heap.size + 1) 28 #[.int .i64 0, .int .i64 rr.status, .int .i64 rr.now, .slice x1 rr.vars.length y1, .slice x2 rr.marks.length y2, .slice x3 rr.dues.length y3] (0, 0) _ rfl (set6 HKZ.out _ _ _ _ _ _) Tryz.underlying28 rfl info6) rfl ?_
            exact IPost.good HX.out HOO.out HBZ.out HB6.out (by omega) (Ch.blk_lt HR6.out) _ _ _ _ _ _
          · have HX := hid (d_none (vars := vars) HZ.out HVF.out (fun h => hon (HTK.out.1 h).2))
            rw [show ((csOf r).acts k == 1) = false from beq_eq_false_iff_ne.2 hon] at HON
            have hk2 := HR2.out
            have f0 := Ch.blk_free hk2 0
            have f1 := Ch.blk_free hk2 1
            have f2 := Ch.blk_free hk2 2
            have f3 := Ch.blk_free hk2 3
            have f4 := Ch.blk_free hk2 4
            have f5 := Ch.blk_free hk2 5
            have g0 : w2.cell? ⟨(w.heap.size + 1), 0, none⟩ = some (.int .i64 0) := Ch.blk_cell hk2 0
            have g1 : w2.cell? ⟨(w.heap.size + 1), 1, none⟩ = some (.int .i64 0) := Ch.blk_cell hk2 1
            have g2 : w2.cell? ⟨(w.heap.size + 1), 2, none⟩ = some (.int .i64 0) := Ch.blk_cell hk2 2
            have g3 : w2.cell? ⟨(w.heap.size + 1), 3, none⟩ = some (.slice none 0 0) := Ch.blk_cell hk2 3
            have g4 : w2.cell? ⟨(w.heap.size + 1), 4, none⟩ = some (.slice none 0 0) := Ch.blk_cell hk2 4
            have g5 : w2.cell? ⟨(w.heap.size + 1), 5, none⟩ = some (.slice none 0 0) := Ch.blk_cell hk2 5
            have gl := Ch.blk_lt hk2
            generalize doneC ss r (k : Int) vars = tc at *
            generalize doneR ss r (k : Int) vars = tr at *
            go_wp2_with (first | (go_at_call 52; refine HHS.out.mono ?_; rintro e w9 ⟨rfl, hw9⟩; replace hw9 := hw9.symm; subst hw9) | (go_at_call 53; refine HON.out.mono ?_; rintro e w9 ⟨rfl, hw9⟩; replace hw9 := hw9.symm; subst hw9))
            refine bodyPost_ret (results_cell_row Tryz.results22 _ _ (w.heap.size + 1) 28 #[.int .i64 (4), .int .i64 0, .int .i64 0, .slice none 0 0, .slice none 0 0, .slice none 0 0] (0, 0) _ rfl (set6 hk2 _ _ _ _ _ _) Tryz.underlying28 rfl info6) rfl ?_
            exact IPost.bad HX.out HB2.out (by omega)
        · have HX := hid (d_none (vars := vars) HZ.out HVF.out (fun h => hkd (HTK.out.1 h).1))
          have b3 : (ss[k].kind != 2) = true := bne_iff_ne.2 hkd
          have hk2 := HR2.out
          have f0 := Ch.blk_free hk2 0
          have f1 := Ch.blk_free hk2 1
          have f2 := Ch.blk_free hk2 2
          have f3 := Ch.blk_free hk2 3
          have f4 := Ch.blk_free hk2 4
          have f5 := Ch.blk_free hk2 5
          have g0 : w2.cell? ⟨(w.heap.size + 1), 0, none⟩ = some (.int .i64 0) := Ch.blk_cell hk2 0
          have g1 : w2.cell? ⟨(w.heap.size + 1), 1, none⟩ = some (.int .i64 0) := Ch.blk_cell hk2 1
          have g2 : w2.cell? ⟨(w.heap.size + 1), 2, none⟩ = some (.int .i64 0) := Ch.blk_cell hk2 2
          have g3 : w2.cell? ⟨(w.heap.size + 1), 3, none⟩ = some (.slice none 0 0) := Ch.blk_cell hk2 3
          have g4 : w2.cell? ⟨(w.heap.size + 1), 4, none⟩ = some (.slice none 0 0) := Ch.blk_cell hk2 4
          have g5 : w2.cell? ⟨(w.heap.size + 1), 5, none⟩ = some (.slice none 0 0) := Ch.blk_cell hk2 5
          have gl := Ch.blk_lt hk2
          generalize doneC ss r (k : Int) vars = tc at *
          generalize doneR ss r (k : Int) vars = tr at *
          go_wp2_with (first | (go_at_call 52; refine HHS.out.mono ?_; rintro e w9 ⟨rfl, hw9⟩; replace hw9 := hw9.symm; subst hw9))
          refine bodyPost_ret (results_cell_row Tryz.results22 _ _ (w.heap.size + 1) 28 #[.int .i64 (4), .int .i64 0, .int .i64 0, .slice none 0 0, .slice none 0 0, .slice none 0 0] (0, 0) _ rfl (set6 hk2 _ _ _ _ _ _) Tryz.underlying28 rfl info6) rfl ?_
          exact IPost.bad HX.out HB2.out (by omega)
      · have HX := hid (d_none (vars := vars) HZ.out HVF.out (fun h => hin ⟨h.1, h.2.1⟩))
        rw [show (decide (0 ≤ step) && decide (step < (ss.length : Int))) = false by simp; omega] at HHS
        have hk2 := HR2.out
        have f0 := Ch.blk_free hk2 0
        have f1 := Ch.blk_free hk2 1
        have f2 := Ch.blk_free hk2 2
        have f3 := Ch.blk_free hk2 3
        have f4 := Ch.blk_free hk2 4
        have f5 := Ch.blk_free hk2 5
        have g0 : w2.cell? ⟨(w.heap.size + 1), 0, none⟩ = some (.int .i64 0) := Ch.blk_cell hk2 0
        have g1 : w2.cell? ⟨(w.heap.size + 1), 1, none⟩ = some (.int .i64 0) := Ch.blk_cell hk2 1
        have g2 : w2.cell? ⟨(w.heap.size + 1), 2, none⟩ = some (.int .i64 0) := Ch.blk_cell hk2 2
        have g3 : w2.cell? ⟨(w.heap.size + 1), 3, none⟩ = some (.slice none 0 0) := Ch.blk_cell hk2 3
        have g4 : w2.cell? ⟨(w.heap.size + 1), 4, none⟩ = some (.slice none 0 0) := Ch.blk_cell hk2 4
        have g5 : w2.cell? ⟨(w.heap.size + 1), 5, none⟩ = some (.slice none 0 0) := Ch.blk_cell hk2 5
        have gl := Ch.blk_lt hk2
        generalize doneC ss r step vars = tc at *
        generalize doneR ss r step vars = tr at *
        go_wp2_with (first | (go_at_call 52; refine HHS.out.mono ?_; rintro e w9 ⟨rfl, hw9⟩; replace hw9 := hw9.symm; subst hw9))
        refine bodyPost_ret (results_cell_row Tryz.results22 _ _ (w.heap.size + 1) 28 #[.int .i64 (4), .int .i64 0, .int .i64 0, .slice none 0 0, .slice none 0 0, .slice none 0 0] (0, 0) _ rfl (set6 hk2 _ _ _ _ _ _) Tryz.underlying28 rfl info6) rfl ?_
        exact IPost.bad HX.out HB2.out (by omega)
    · have b2 : (vFault vars != 0) = true := bne_iff_ne.2 hvf
      have HX := hid (d_vars (step := step) HZ.out hvf)
      clear hvf
      have f0 := Ch.blk_free hk2 0
      have f1 := Ch.blk_free hk2 1
      have f2 := Ch.blk_free hk2 2
      have f3 := Ch.blk_free hk2 3
      have f4 := Ch.blk_free hk2 4
      have f5 := Ch.blk_free hk2 5
      have g0 : w2.cell? ⟨(w.heap.size + 1), 0, none⟩ = some (.int .i64 0) := Ch.blk_cell hk2 0
      have g1 : w2.cell? ⟨(w.heap.size + 1), 1, none⟩ = some (.int .i64 0) := Ch.blk_cell hk2 1
      have g2 : w2.cell? ⟨(w.heap.size + 1), 2, none⟩ = some (.int .i64 0) := Ch.blk_cell hk2 2
      have g3 : w2.cell? ⟨(w.heap.size + 1), 3, none⟩ = some (.slice none 0 0) := Ch.blk_cell hk2 3
      have g4 : w2.cell? ⟨(w.heap.size + 1), 4, none⟩ = some (.slice none 0 0) := Ch.blk_cell hk2 4
      have g5 : w2.cell? ⟨(w.heap.size + 1), 5, none⟩ = some (.slice none 0 0) := Ch.blk_cell hk2 5
      have gl := Ch.blk_lt hk2
      generalize doneC ss r step vars = tc at *
      generalize doneR ss r step vars = tr at *
      generalize vFault vars = vf at *
      go_wp2
      refine bodyPost_ret (results_cell_row Tryz.results22 _ _ (w.heap.size + 1) 28 #[.int .i64 (vf), .int .i64 0, .int .i64 0, .slice none 0 0, .slice none 0 0, .slice none 0 0] (0, 0) _ rfl (set6 hk2 _ _ _ _ _ _) Tryz.underlying28 rfl info6) rfl ?_
      exact IPost.bad HX.out HB2.out (by omega)
set_option maxRecDepth 100000 in
set_option maxHeartbeats 16000000 in
theorem implMail (ss : List StepD) (r : RunD) (msg : Int) (v v1 v2 v3 : Value) (w : World) (hsm : St.Small 1048576 ss) (hs : Ch.Small 1048576 r) (ha : St.At w 0 v ss) (hc : Ch.At w 0 v1 v2 v3 r) (hr : Rul w) :
    Calls Tryz.prog 28 #[v, .agg #[.int .i64 r.status, .int .i64 r.now, v1, v2, v3], .int .i64 msg] w (IPost (mailC ss r msg) (mailR ss r msg) w) := by
  obtain ⟨a, cap, rfl⟩ := ha.slice
  obtain ⟨a1, c1, rfl⟩ := hc.vars.slice
  obtain ⟨a2, c2, rfl⟩ := hc.marks.slice
  obtain ⟨a3, c3, rfl⟩ := hc.dues.slice
  obtain ⟨w0, e0⟩ : ∃ w0, w0 = (w.alloc (.cells #[.int .i64 r.status, .int .i64 r.now, .slice a1 r.vars.length c1, .slice a2 r.marks.length c2, .slice a3 r.dues.length c3] 26)).alloc (.cells #[.int .i64 0, .int .i64 0, .int .i64 0, .slice none 0 0, .slice none 0 0, .slice none 0 0] 28) := ⟨_, rfl⟩
  have hb0 : Below w.heap.size w w0 := by rw [e0]; exact ((Below.refl _ w).alloc (Nat.le_refl _) _).alloc (by simp) _
  have hk0 : w0.heap[(w.heap.size + 1)]? = some (.cells #[.int .i64 0, .int .i64 0, .int .i64 0, .slice none 0 0, .slice none 0 0, .slice none 0 0] 28) := by rw [e0]; exact Ch.new_at (by simp) _
  have hw0 : w.heap.size + 1 < w0.heap.size := Ch.blk_lt hk0
  have HF := hid (courseOf ss r _ _ _ _ w0 hsm hs (ha.below hb0) (hc.below hb0) (hr.below hb0 hr.lt))
  have HB0 := hid hb0
  clear ha hc hsm hr hb0 hs
  go_enter Tryz.func28, Tryz.ntmps28
  go_wp2_with fail
  rw [← e0]
  clear e0
  refine HF.out.mono ?_
  rintro e w1 ⟨h1, hb1⟩
  have hk1 := rb_below hk0 hb1
  have HB1 := hid (HB0.out.trans (hb1.mono HB0.out.size))
  clear HF HB0 hb1 hk0
  rcases h1 with ⟨hne, rfl⟩ | ⟨hz, wg, R, u, rfl, hk, hle⟩
  · have b0 : (chartC ss r != 0) = true := bne_iff_ne.2 hne
    have HX := hid (m_chart (msg := msg) hne)
    clear hne
    have f0 := Ch.blk_free hk1 0
    have f1 := Ch.blk_free hk1 1
    have f2 := Ch.blk_free hk1 2
    have f3 := Ch.blk_free hk1 3
    have f4 := Ch.blk_free hk1 4
    have f5 := Ch.blk_free hk1 5
    have g0 : w1.cell? ⟨(w.heap.size + 1), 0, none⟩ = some (.int .i64 0) := Ch.blk_cell hk1 0
    have g1 : w1.cell? ⟨(w.heap.size + 1), 1, none⟩ = some (.int .i64 0) := Ch.blk_cell hk1 1
    have g2 : w1.cell? ⟨(w.heap.size + 1), 2, none⟩ = some (.int .i64 0) := Ch.blk_cell hk1 2
    have g3 : w1.cell? ⟨(w.heap.size + 1), 3, none⟩ = some (.slice none 0 0) := Ch.blk_cell hk1 3
    have g4 : w1.cell? ⟨(w.heap.size + 1), 4, none⟩ = some (.slice none 0 0) := Ch.blk_cell hk1 4
    have g5 : w1.cell? ⟨(w.heap.size + 1), 5, none⟩ = some (.slice none 0 0) := Ch.blk_cell hk1 5
    have gl := Ch.blk_lt hk1
    generalize mailC ss r msg = tc at *
    generalize mailR ss r msg = tr at *
    generalize chartC ss r = pf at *
    go_wp2
    refine bodyPost_ret (results_cell_row Tryz.results28 _ _ (w.heap.size + 1) 28 #[.int .i64 (pf), .int .i64 0, .int .i64 0, .slice none 0 0, .slice none 0 0, .slice none 0 0] (0, 0) _ rfl (set6 hk1 _ _ _ _ _ _) Tryz.underlying28 rfl info6) rfl ?_
    exact IPost.bad HX.out HB1.out (by omega)
  · have HZ := hid hz
    have HP := hid (of_c hz).1
    have HOK := hid (ok_of hz)
    have HIV := hid (inv_of hz)
    have hl : ss.length ≤ 24 := by have := (of_p HP.out).1; omega
    have hRl := hk.lt
    have hle1 : w.heap.size + 1 < w1.heap.size := Ch.blk_lt hk1
    have hold := hk.old
    have HK := hid hk
    have HKR := hid hk1
    clear hk hk1 hz
    by_cases h1 : msg < 0
    · have HX := hid (m_msg HZ.out (.inl h1))
      have hk1 := HKR.out
      have f0 := Ch.blk_free hk1 0
      have f1 := Ch.blk_free hk1 1
      have f2 := Ch.blk_free hk1 2
      have f3 := Ch.blk_free hk1 3
      have f4 := Ch.blk_free hk1 4
      have f5 := Ch.blk_free hk1 5
      have g0 : w1.cell? ⟨(w.heap.size + 1), 0, none⟩ = some (.int .i64 0) := Ch.blk_cell hk1 0
      have g1 : w1.cell? ⟨(w.heap.size + 1), 1, none⟩ = some (.int .i64 0) := Ch.blk_cell hk1 1
      have g2 : w1.cell? ⟨(w.heap.size + 1), 2, none⟩ = some (.int .i64 0) := Ch.blk_cell hk1 2
      have g3 : w1.cell? ⟨(w.heap.size + 1), 3, none⟩ = some (.slice none 0 0) := Ch.blk_cell hk1 3
      have g4 : w1.cell? ⟨(w.heap.size + 1), 4, none⟩ = some (.slice none 0 0) := Ch.blk_cell hk1 4
      have g5 : w1.cell? ⟨(w.heap.size + 1), 5, none⟩ = some (.slice none 0 0) := Ch.blk_cell hk1 5
      have gl := Ch.blk_lt hk1
      generalize mailC ss r msg = tc at *
      generalize mailR ss r msg = tr at *
      go_wp2
      refine bodyPost_ret (results_cell_row Tryz.results28 _ _ (w.heap.size + 1) 28 #[.int .i64 (3), .int .i64 0, .int .i64 0, .slice none 0 0, .slice none 0 0, .slice none 0 0] (0, 0) _ rfl (set6 HKR.out _ _ _ _ _ _) Tryz.underlying28 rfl info6) rfl ?_
      exact IPost.bad HX.out HB1.out (by omega)
    by_cases h2 : 9 < msg
    · have HX := hid (m_msg HZ.out (.inr h2))
      have hk1 := HKR.out
      have f0 := Ch.blk_free hk1 0
      have f1 := Ch.blk_free hk1 1
      have f2 := Ch.blk_free hk1 2
      have f3 := Ch.blk_free hk1 3
      have f4 := Ch.blk_free hk1 4
      have f5 := Ch.blk_free hk1 5
      have g0 : w1.cell? ⟨(w.heap.size + 1), 0, none⟩ = some (.int .i64 0) := Ch.blk_cell hk1 0
      have g1 : w1.cell? ⟨(w.heap.size + 1), 1, none⟩ = some (.int .i64 0) := Ch.blk_cell hk1 1
      have g2 : w1.cell? ⟨(w.heap.size + 1), 2, none⟩ = some (.int .i64 0) := Ch.blk_cell hk1 2
      have g3 : w1.cell? ⟨(w.heap.size + 1), 3, none⟩ = some (.slice none 0 0) := Ch.blk_cell hk1 3
      have g4 : w1.cell? ⟨(w.heap.size + 1), 4, none⟩ = some (.slice none 0 0) := Ch.blk_cell hk1 4
      have g5 : w1.cell? ⟨(w.heap.size + 1), 5, none⟩ = some (.slice none 0 0) := Ch.blk_cell hk1 5
      have gl := Ch.blk_lt hk1
      generalize mailC ss r msg = tc at *
      generalize mailR ss r msg = tr at *
      go_wp2
      refine bodyPost_ret (results_cell_row Tryz.results28 _ _ (w.heap.size + 1) 28 #[.int .i64 (3), .int .i64 0, .int .i64 0, .slice none 0 0, .slice none 0 0, .slice none 0 0] (0, 0) _ rfl (set6 HKR.out _ _ _ _ _ _) Tryz.underlying28 rfl info6) rfl ?_
      exact IPost.bad HX.out HB1.out (by omega)
    have HFW := hid (firstWaitU wg w1 R u ss (csOf r) msg hl HK.out)
    go_wp2_with fail
    refine HFW.out.mono ?_
    rintro e w2 ⟨rfl, hb2⟩
    have hk2 := rb_below HKR.out hb2
    have HB2 := hid (HB1.out.trans (hb2.mono HB1.out.size))
    have HK2 := hid (HK.out.below hb2)
    have hle2 := hb2.size
    clear HFW hb2 HB1 HK HKR
    cases hw : waitF ss (csOf r) msg ss.length 0 with
    | none =>
      have HX := hid (m_none HZ.out (by omega) hw)
      clear hw
      simp only [outN, hasN]
      have f0 := Ch.blk_free hk2 0
      have f1 := Ch.blk_free hk2 1
      have f2 := Ch.blk_free hk2 2
      have f3 := Ch.blk_free hk2 3
      have f4 := Ch.blk_free hk2 4
      have f5 := Ch.blk_free hk2 5
      have g0 : w2.cell? ⟨(w.heap.size + 1), 0, none⟩ = some (.int .i64 0) := Ch.blk_cell hk2 0
      have g1 : w2.cell? ⟨(w.heap.size + 1), 1, none⟩ = some (.int .i64 0) := Ch.blk_cell hk2 1
      have g2 : w2.cell? ⟨(w.heap.size + 1), 2, none⟩ = some (.int .i64 0) := Ch.blk_cell hk2 2
      have g3 : w2.cell? ⟨(w.heap.size + 1), 3, none⟩ = some (.slice none 0 0) := Ch.blk_cell hk2 3
      have g4 : w2.cell? ⟨(w.heap.size + 1), 4, none⟩ = some (.slice none 0 0) := Ch.blk_cell hk2 4
      have g5 : w2.cell? ⟨(w.heap.size + 1), 5, none⟩ = some (.slice none 0 0) := Ch.blk_cell hk2 5
      have gl := Ch.blk_lt hk2
      generalize mailC ss r msg = tc at *
      generalize mailR ss r msg = tr at *
      go_wp2
      refine bodyPost_ret (results_cell_row Tryz.results28 _ _ (w.heap.size + 1) 28 #[.int .i64 (4), .int .i64 0, .int .i64 0, .slice none 0 0, .slice none 0 0, .slice none 0 0] (0, 0) _ rfl (set6 hk2 _ _ _ _ _ _) Tryz.underlying28 rfl info6) rfl ?_
      exact IPost.bad HX.out HB2.out (by omega)
    | some k =>
      have HX := hid (m_ok HZ.out (by omega) hw)
      have hkl : k < ss.length := by have := wait_in hw; omega
      have HR2 := hid hk2
      clear hw hk2
      simp only [outN, hasN]
      have HO4 := hid ((goU (wg := wg) (R := R) (u := u) HP.out FU).2.2 k _ w2 hkl (fuelO HP.out hkl) HOK.out HK2.out)
      go_wp2_with fail
      refine HO4.out.mono ?_
      rintro e w6 hT
      obtain rfl := hT.1
      have HU := hid hT
      clear hT
      have HRR := hid HU.out.2.2
      have HB6 := hid (HRR.out.below HB2.out (by omega))
      have HR6 := hid ((HRR.out.block _ (Ch.blk_lt HR2.out) (by omega)).trans HR2.out)
      have HKU := hid HU.out.2.1
      have HRES := hid (resultU _ w6 _ _ ss _ hl HKU.out)
      go_wp2_with fail
      refine HRES.out.mono ?_
      rintro e wz hT
      obtain ⟨v1, v2, v3, rfl, ho, hbz⟩ := hT
      have hkz := rb_below HR6.out hbz
      have f0 := Ch.blk_free hkz 0
      have f1 := Ch.blk_free hkz 1
      have f2 := Ch.blk_free hkz 2
      have f3 := Ch.blk_free hkz 3
      have f4 := Ch.blk_free hkz 4
      have f5 := Ch.blk_free hkz 5
      have g0 : wz.cell? ⟨(w.heap.size + 1), 0, none⟩ = some (.int .i64 0) := Ch.blk_cell hkz 0
      have g1 : wz.cell? ⟨(w.heap.size + 1), 1, none⟩ = some (.int .i64 0) := Ch.blk_cell hkz 1
      have g2 : wz.cell? ⟨(w.heap.size + 1), 2, none⟩ = some (.int .i64 0) := Ch.blk_cell hkz 2
      have g3 : wz.cell? ⟨(w.heap.size + 1), 3, none⟩ = some (.slice none 0 0) := Ch.blk_cell hkz 3
      have g4 : wz.cell? ⟨(w.heap.size + 1), 4, none⟩ = some (.slice none 0 0) := Ch.blk_cell hkz 4
      have g5 : wz.cell? ⟨(w.heap.size + 1), 5, none⟩ = some (.slice none 0 0) := Ch.blk_cell hkz 5
      have gl := Ch.blk_lt hkz
      have HOO := hid ho
      have HBZ := hid hbz
      have HKZ := hid hkz
      obtain ⟨x1, y1, rfl⟩ := Ints.owns_slice ho.vars
      obtain ⟨x2, y2, rfl⟩ := Ints.owns_slice ho.marks
      obtain ⟨x3, y3, rfl⟩ := Ints.owns_slice ho.dues
      clear ho hbz hkz
      generalize runOf ss.length (go ss FU true k (csOf r)) = rr at *
      go_wp2
      refine bodyPost_ret (results_cell_row Tryz.results28 _ _ (w.heap.size + 1) 28 #[.int .i64 0, .int .i64 rr.status, .int .i64 rr.now, .slice x1 rr.vars.length y1, .slice x2 rr.marks.length y2, .slice x3 rr.dues.length y3] (0, 0) _ rfl (set6 HKZ.out _ _ _ _ _ _) Tryz.underlying28 rfl info6) rfl ?_
      exact IPost.good HX.out HOO.out HBZ.out HB6.out (by omega) (Ch.blk_lt HR6.out) _ _ _ _ _ _
end Kv
end Go.Proofs.YtpgbjpfpgbjbeaaGreatDoor
