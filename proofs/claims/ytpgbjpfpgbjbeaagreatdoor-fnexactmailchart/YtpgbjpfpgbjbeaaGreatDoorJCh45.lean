/- StartChart, DoneChart, TickChart and MailChart of the program. Condition: the table of rules lies as its initialiser lays it. -/
import Derived.Test.YtpgbjpfpgbjbeaaGreatDoorJCh41
import Derived.Test.YtpgbjpfpgbjbeaaGreatDoorJCh44
namespace Go.Proofs.YtpgbjpfpgbjbeaaGreatDoor
open Go.RowKit Go.Deep
set_option linter.unusedVariables false
set_option linter.unusedSimpArgs false
namespace Kv
open Ex (inR evalCode evalVal vFault hid)
open St (StepD)
open Ch (RunD)
open Pf
open Kc (CS upd zer endOf stopped idle kid go mE mO Ok KAt Rides kval PBlk isOn chartC csOf fA fD ints CPost courseOf of_c kcs_new cs0)
open Ku (UPost goU entering)
theorem IPost.bad {w w1 : World} {P : Nat} {code cc : Int} {r : RunD} (h : code = cc ∧ r = zeroR) (hb : Below w.heap.size w w1) (hP : w.heap.size ≤ P) :
    IPost code r w (.returned (.agg #[.int .i64 cc, .int .i64 0, .int .i64 0, .slice none 0 0, .slice none 0 0, .slice none 0 0])) (((((((w1.setCell ⟨P, 0, none⟩ (.int .i64 cc)).setCell ⟨P, 1, none⟩ (.int .i64 0)).setCell ⟨P, 2, none⟩ (.int .i64 0)).setCell ⟨P, 3, none⟩ (.slice none 0 0)).setCell ⟨P, 4, none⟩ (.slice none 0 0)).setCell ⟨P, 5, none⟩ (.slice none 0 0))) := by
  obtain ⟨rfl, rfl⟩ := h
  exact ⟨_, _, _, rfl, ⟨World.ownsRow_nil _ _ _ _, World.ownsRow_nil _ _ _ _, World.ownsRow_nil _ _ _ _, (fun b e => by cases e), (fun b e => by cases e), (fun b e => by cases e)⟩, below6 hb hP _ _ _ _ _ _⟩
theorem IPost.good {w w1 w2 : World} {P : Nat} {code : Int} {r r' : RunD} {v1 v2 v3 : Value} (h : code = 0 ∧ r = r') (ho : Cr.Own3 w2 w1.heap.size v1 v2 v3 r') (h2 : Below w1.heap.size w1 w2) (hb : Below w.heap.size w w1) (hP : w.heap.size ≤ P) (hl : P < w1.heap.size) (a0 a1 a2 a3 a4 a5 : Value) :
    IPost code r w (.returned (.agg #[.int .i64 0, .int .i64 r'.status, .int .i64 r'.now, v1, v2, v3])) (((((((w2.setCell ⟨P, 0, none⟩ a0).setCell ⟨P, 1, none⟩ a1).setCell ⟨P, 2, none⟩ a2).setCell ⟨P, 3, none⟩ a3).setCell ⟨P, 4, none⟩ a4).setCell ⟨P, 5, none⟩ a5)) := by
  obtain ⟨rfl, rfl⟩ := h
  have hk := ho.kept (w' := ((((((w2.setCell ⟨P, 0, none⟩ a0).setCell ⟨P, 1, none⟩ a1).setCell ⟨P, 2, none⟩ a2).setCell ⟨P, 3, none⟩ a3).setCell ⟨P, 4, none⟩ a4).setCell ⟨P, 5, none⟩ a5)) (fun b hb1 hb2 => heap6 (by omega) _ _ _ _ _ _)
  exact ⟨_, _, _, rfl, ⟨Cr.own_base hk.vars hb.size, Cr.own_base hk.marks hb.size, Cr.own_base hk.dues hb.size, hk.d12, hk.d13, hk.d23⟩, below6 (hb.trans (h2.mono hb.size)) hP _ _ _ _ _ _⟩
theorem res_lt {w : World} {P : Nat} (h : w.heap[P]? = some (.cells #[.int .i64 0, .int .i64 0, .int .i64 0, .slice none 0 0, .slice none 0 0, .slice none 0 0] 28)) : P < w.heap.size := Ch.blk_lt h
theorem rb_below {w w' : World} {P : Nat} (h : w.heap[P]? = some (.cells #[.int .i64 0, .int .i64 0, .int .i64 0, .slice none 0 0, .slice none 0 0, .slice none 0 0] 28)) (hb : Below w.heap.size w w') : w'.heap[P]? = some (.cells #[.int .i64 0, .int .i64 0, .int .i64 0, .slice none 0 0, .slice none 0 0, .slice none 0 0] 28) := (hb.block P (Ch.blk_lt h)).trans h
set_option maxRecDepth 100000 in
set_option maxHeartbeats 16000000 in
theorem implStart (ss : List StepD) (vars : List Int) (now : Int) (v vv : Value) (w : World) (hsm : St.Small 1048576 ss) (hlv : vars.length ≤ 1048576) (ha : St.At w 0 v ss) (hv : Nu.At w 0 vv vars) (hr : Rul w) :
    Calls Tryz.prog 11 #[v, vv, .int .i64 now] w (IPost (startC ss vars now) (startR ss vars now) w) := by
  obtain ⟨a, cap, rfl⟩ := ha.slice
  obtain ⟨av, cv, rfl⟩ := hv.slice
  obtain ⟨w0, e0⟩ : ∃ w0, w0 = w.alloc (.cells #[.int .i64 0, .int .i64 0, .int .i64 0, .slice none 0 0, .slice none 0 0, .slice none 0 0] 28) := ⟨_, rfl⟩
  have hb0 : Below w.heap.size w w0 := by rw [e0]; exact (Below.refl _ w).alloc (Nat.le_refl _) _
  have hk0 : w0.heap[w.heap.size]? = some (.cells #[.int .i64 0, .int .i64 0, .int .i64 0, .slice none 0 0, .slice none 0 0, .slice none 0 0] 28) := by rw [e0]; exact Ch.new_blk _ _
  have HF := hid (procStepsC ss _ w0 hsm (ha.below hb0) (hr.below hb0 hr.lt))
  have HVV := hid (hv.below hb0)
  have HB0 := hid hb0
  have HLV := hid hlv
  clear ha hv hsm hr hb0 hlv
  go_enter Tryz.func11, Tryz.ntmps11
  go_wp2_with fail
  rw [← e0]
  clear e0
  refine HF.out.mono ?_
  rintro e w1 ⟨⟨u, rfl, hu1, hu2⟩, hb1⟩
  have hk1 := rb_below hk0 hb1
  have HB1 := hid (HB0.out.trans (hb1.mono HB0.out.size))
  have HV1 := hid (HVV.out.below hb1)
  clear HF HVV HB0 hb1 hk0
  by_cases hf : pFault ss = 0
  · have b0 : (pFault ss != 0) = false := by simp [hf]
    obtain ⟨hPA, hcap⟩ := hu2 hf
    obtain ⟨gu, cu, rfl, hgu, hgc⟩ := hPA
    clear hgc
    have HPA := hid (hu2 hf).1
    have HCAP := hid hcap
    have hl : ss.length ≤ 24 := by have := (of_p hf).1; omega
    have hpos : 0 < ss.length := by have := (of_p hf).1; omega
    have HP := hid hf
    have HK1 := hid hk1
    have HVF := hid (Ex.implVarsB 0 vars _ w1 HLV.out HV1.out)
    clear hu1 hu2 hf hcap hk1
    go_wp2_with fail
    refine HVF.out.mono ?_
    rintro e w2 ⟨rfl, hb2⟩
    have hk2 := rb_below HK1.out hb2
    have HB2 := hid (HB1.out.trans (hb2.mono HB1.out.size))
    have HV2 := hid (HV1.out.below hb2)
    have HPA2 := hid (HPA.out.below hb2)
    clear HVF HV1 HK1 HB1 hb2 HPA
    by_cases hvf : vFault vars = 0
    · have b2 : (vFault vars != 0) = false := by simp [hvf]
      have H4 := hid (Ex.of_v hvf).1
      have HVF := hid hvf
      have HK2 := hid hk2
      have HT := hid (Kc.isTime now w2)
      clear hk2 hvf
      cases hin : inR now 0 1000000
      · rw [hin] at HT
        have HX := hid (s_now (vars := vars) HP.out HVF.out hin)
        have hk2 := HK2.out
        have f0 := Ch.blk_free hk2 0
        have f1 := Ch.blk_free hk2 1
        have f2 := Ch.blk_free hk2 2
        have f3 := Ch.blk_free hk2 3
        have f4 := Ch.blk_free hk2 4
        have f5 := Ch.blk_free hk2 5
        have g0 : w2.cell? ⟨w.heap.size, 0, none⟩ = some (.int .i64 0) := Ch.blk_cell hk2 0
        have g1 : w2.cell? ⟨w.heap.size, 1, none⟩ = some (.int .i64 0) := Ch.blk_cell hk2 1
        have g2 : w2.cell? ⟨w.heap.size, 2, none⟩ = some (.int .i64 0) := Ch.blk_cell hk2 2
        have g3 : w2.cell? ⟨w.heap.size, 3, none⟩ = some (.slice none 0 0) := Ch.blk_cell hk2 3
        have g4 : w2.cell? ⟨w.heap.size, 4, none⟩ = some (.slice none 0 0) := Ch.blk_cell hk2 4
        have g5 : w2.cell? ⟨w.heap.size, 5, none⟩ = some (.slice none 0 0) := Ch.blk_cell hk2 5
        have gl := Ch.blk_lt hk2
        generalize startC ss vars now = tc at *
        generalize startR ss vars now = tr at *
        go_wp2_with (go_at_call 39; refine HT.out.mono ?_; rintro e w3 ⟨rfl, hw3⟩; replace hw3 := hw3.symm; subst hw3)
        refine bodyPost_ret (results_cell_row Tryz.results11 _ _ w.heap.size 28 #[.int .i64 (3), .int .i64 0, .int .i64 0, .slice none 0 0, .slice none 0 0, .slice none 0 0] (0, 0) _ rfl (set6 HK2.out _ _ _ _ _ _) Tryz.underlying28 rfl info6) rfl ?_
        exact IPost.bad HX.out HB2.out (Nat.le_refl _)
      · rw [hin] at HT
        have HX := hid (s_ok (vars := vars) HP.out HVF.out hin)
        have HOK : Hid (Ok ⟨1, now, vars, fun _ => 0, fun _ => 0⟩) := hid ⟨HVF.out, (Ex.inR_iff.1 hin).1, (Ex.inR_iff.1 hin).2⟩
        clear hin
        obtain ⟨w3, e3⟩ : ∃ w3, w3 = w2.alloc (.cells #[.slice (some ⟨gu, 0, none⟩) ss.length cu, .int .i64 1, .int .i64 now, .int .i64 0, .int .i64 0, .int .i64 0, .int .i64 0, .int .i64 0, .int .i64 0, .int .i64 0, .int .i64 0, .int .i64 0, .int .i64 0, .int .i64 0, .int .i64 0, .int .i64 0, .int .i64 0, .int .i64 0, .int .i64 0, .int .i64 0, .int .i64 0, .int .i64 0, .int .i64 0, .int .i64 0, .int .i64 0, .int .i64 0, .int .i64 0, .int .i64 0, .int .i64 0, .int .i64 0, .int .i64 0, .int .i64 0, .int .i64 0, .int .i64 0, .int .i64 0, .int .i64 0, .int .i64 0, .int .i64 0, .int .i64 0, .int .i64 0, .int .i64 0, .int .i64 0, .int .i64 0, .int .i64 0, .int .i64 0, .int .i64 0, .int .i64 0, .int .i64 0, .int .i64 0, .int .i64 0, .int .i64 0, .int .i64 0, .int .i64 0, .int .i64 0, .int .i64 0] 71) := ⟨_, rfl⟩
        have h3 : Below w2.heap.size w2 w3 := by rw [e3]; exact (Below.refl _ w2).alloc (Nat.le_refl _) _
        have HKA : Hid (KAt w2 w3 w2.heap.size (.slice (some ⟨gu, 0, none⟩) ss.length cu) ss ⟨1, now, [0, 0, 0, 0], fun _ => 0, fun _ => 0⟩) := hid ⟨HPA2.out, HCAP.out, h3, Nat.le_refl _, by rw [e3, kcs_new]; exact Ch.new_blk _ _, rfl, fun _ _ => ⟨rfl, rfl⟩⟩
        obtain ⟨w4, e4⟩ : ∃ w4, w4 = w3.setCells w2.heap.size 3 (ints vars) := ⟨_, rfl⟩
        have hc4 : ∀ ty, (Builtin.copy_ #[23, 23] ty #[.slice (some ⟨w2.heap.size, 3, none⟩) 4 4, .slice av vars.length cv]).run Tryz.prog w3 = .ok (.int .i64 (vars.length : Int)) w4 := fun ty => by
          rw [e4]
          exact HKA.out.copy (HV2.out.below HKA.out.bel) (by rw [H4.out]; omega) (by omega) (by rw [H4.out]; omega) ty
        have HK4 : Hid (KAt w2 w4 w2.heap.size (.slice (some ⟨gu, 0, none⟩) ss.length cu) ss ⟨1, now, vars, fun _ => 0, fun _ => 0⟩) := hid (by rw [e4]; exact HKA.out.varsAll H4.out)
        have HEN := hid (entering w2 w4 w2.heap.size _ ss _ 0 hl hpos HK4.out)
        have l3 : w2.heap.size < w3.heap.size := HKA.out.lt
        have l4 : w2.heap.size < w4.heap.size := HK4.out.lt
        clear HKA e4 h3
        go_upto_region 10 with (go_at_call 39; refine HT.out.mono ?_; rintro e w9 ⟨rfl, hw9⟩; replace hw9 := hw9.symm; subst hw9)
        rw [← e3]
        clear e3
        go_wp2_with (go_at_call 40; refine HEN.out.mono ?_; rintro e w5 ⟨⟨b1, b2, b3, rfl, hcl⟩, hb5⟩)
        have HE5 := hid ((goU (wg := w2) (R := w2.heap.size) (u := .slice (some ⟨gu, 0, none⟩) ss.length cu) HP.out FU).1 0 _ w5 b1 b2 b3 hpos (fuelE hl _) HOK.out (HK4.out.below hb5) hcl)
        have HR5 := hid ((Rides.of_below (R := w2.heap.size) hb5))
        clear hcl hb5
        go_wp2_with (go_at_call 73; refine HE5.out.mono ?_; rintro e w6 hT; obtain rfl := hT.1; have HU := hid hT; clear hT)
        have HB6 := hid (HB2.out.trans (HU.out.2.1.bel.mono HB2.out.size))
        have HR6 := hid ((HU.out.2.1.bel.block _ (Ch.blk_lt HK2.out)).trans HK2.out)
        have HKU := hid HU.out.2.1
        have HRES := hid (resultU _ w6 _ _ ss _ hl HKU.out)
        go_wp2_with fail
        refine HRES.out.mono ?_
        rintro e wz hT
        obtain ⟨v1, v2, v3, rfl, ho, hbz⟩ := hT
        have hkz := rb_below HR6.out hbz
        have f0 := Ch.blk_free hkz 0
        have f1 := Ch.blk_free hkz 1
        have f2 := Ch.blk_free hkz 2
        have f3 := Ch.blk_free hkz 3
        have f4 := Ch.blk_free hkz 4
        have f5 := Ch.blk_free hkz 5
        have g0 : wz.cell? ⟨w.heap.size, 0, none⟩ = some (.int .i64 0) := Ch.blk_cell hkz 0
        have g1 : wz.cell? ⟨w.heap.size, 1, none⟩ = some (.int .i64 0) := Ch.blk_cell hkz 1
        have g2 : wz.cell? ⟨w.heap.size, 2, none⟩ = some (.int .i64 0) := Ch.blk_cell hkz 2
        have g3 : wz.cell? ⟨w.heap.size, 3, none⟩ = some (.slice none 0 0) := Ch.blk_cell hkz 3
        have g4 : wz.cell? ⟨w.heap.size, 4, none⟩ = some (.slice none 0 0) := Ch.blk_cell hkz 4
        have g5 : wz.cell? ⟨w.heap.size, 5, none⟩ = some (.slice none 0 0) := Ch.blk_cell hkz 5
        have gl := Ch.blk_lt hkz
        have HOO := hid ho
        have HBZ := hid hbz
        have HKZ := hid hkz
        obtain ⟨x1, y1, rfl⟩ := Ints.owns_slice ho.vars
        obtain ⟨x2, y2, rfl⟩ := Ints.owns_slice ho.marks
        obtain ⟨x3, y3, rfl⟩ := Ints.owns_slice ho.dues
        clear ho hbz hkz
        generalize runOf ss.length (go ss FU false 0 ⟨1, now, vars, fun _ => 0, fun _ => 0⟩) = rr at *
        go_wp2
        refine bodyPost_ret (results_cell_row Tryz.results11 _ _ w.heap.size 28 #[.int .i64 0, .int .i64 rr.status, .int .i64 rr.now, .slice x1 rr.vars.length y1, .slice x2 rr.marks.length y2, .slice x3 rr.dues.length y3] (0, 0) _ rfl (set6 HKZ.out _ _ _ _ _ _) Tryz.underlying28 rfl info6) rfl ?_
        exact IPost.good HX.out HOO.out HBZ.out HB6.out (Nat.le_refl _) (Ch.blk_lt HR6.out) _ _ _ _ _ _
    · have b2 : (vFault vars != 0) = true := bne_iff_ne.2 hvf
      have HX := hid (s_vars (now := now) HP.out hvf)
      clear hvf
      have f0 := Ch.blk_free hk2 0
      have f1 := Ch.blk_free hk2 1
      have f2 := Ch.blk_free hk2 2
      have f3 := Ch.blk_free hk2 3
      have f4 := Ch.blk_free hk2 4
      have f5 := Ch.blk_free hk2 5
      have g0 : w2.cell? ⟨w.heap.size, 0, none⟩ = some (.int .i64 0) := Ch.blk_cell hk2 0
      have g1 : w2.cell? ⟨w.heap.size, 1, none⟩ = some (.int .i64 0) := Ch.blk_cell hk2 1
      have g2 : w2.cell? ⟨w.heap.size, 2, none⟩ = some (.int .i64 0) := Ch.blk_cell hk2 2
      have g3 : w2.cell? ⟨w.heap.size, 3, none⟩ = some (.slice none 0 0) := Ch.blk_cell hk2 3
      have g4 : w2.cell? ⟨w.heap.size, 4, none⟩ = some (.slice none 0 0) := Ch.blk_cell hk2 4
      have g5 : w2.cell? ⟨w.heap.size, 5, none⟩ = some (.slice none 0 0) := Ch.blk_cell hk2 5
      have gl := Ch.blk_lt hk2
      generalize startC ss vars now = tc at *
      generalize startR ss vars now = tr at *
      generalize vFault vars = vf at *
      go_wp2
      refine bodyPost_ret (results_cell_row Tryz.results11 _ _ w.heap.size 28 #[.int .i64 (vf), .int .i64 0, .int .i64 0, .slice none 0 0, .slice none 0 0, .slice none 0 0] (0, 0) _ rfl (set6 hk2 _ _ _ _ _ _) Tryz.underlying28 rfl info6) rfl ?_
      exact IPost.bad HX.out HB2.out (Nat.le_refl _)
  · have b0 : (pFault ss != 0) = true := bne_iff_ne.2 hf
    obtain rfl := hu1 hf
    have HX := hid (s_proc (vars := vars) (now := now) hf)
    clear hf hu1 hu2
    have f0 := Ch.blk_free hk1 0
    have f1 := Ch.blk_free hk1 1
    have f2 := Ch.blk_free hk1 2
    have f3 := Ch.blk_free hk1 3
    have f4 := Ch.blk_free hk1 4
    have f5 := Ch.blk_free hk1 5
    have g0 : w1.cell? ⟨w.heap.size, 0, none⟩ = some (.int .i64 0) := Ch.blk_cell hk1 0
    have g1 : w1.cell? ⟨w.heap.size, 1, none⟩ = some (.int .i64 0) := Ch.blk_cell hk1 1
    have g2 : w1.cell? ⟨w.heap.size, 2, none⟩ = some (.int .i64 0) := Ch.blk_cell hk1 2
    have g3 : w1.cell? ⟨w.heap.size, 3, none⟩ = some (.slice none 0 0) := Ch.blk_cell hk1 3
    have g4 : w1.cell? ⟨w.heap.size, 4, none⟩ = some (.slice none 0 0) := Ch.blk_cell hk1 4
    have g5 : w1.cell? ⟨w.heap.size, 5, none⟩ = some (.slice none 0 0) := Ch.blk_cell hk1 5
    have gl := Ch.blk_lt hk1
    generalize startC ss vars now = tc at *
    generalize startR ss vars now = tr at *
    generalize pFault ss = pf at *
    go_wp2
    refine bodyPost_ret (results_cell_row Tryz.results11 _ _ w.heap.size 28 #[.int .i64 (pf), .int .i64 0, .int .i64 0, .slice none 0 0, .slice none 0 0, .slice none 0 0] (0, 0) _ rfl (set6 hk1 _ _ _ _ _ _) Tryz.underlying28 rfl info6) rfl ?_
    exact IPost.bad HX.out HB1.out (Nat.le_refl _)
end Kv
end Go.Proofs.YtpgbjpfpgbjbeaaGreatDoor
