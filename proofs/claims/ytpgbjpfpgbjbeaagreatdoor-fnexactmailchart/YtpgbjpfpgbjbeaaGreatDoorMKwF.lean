/- MailChart of the specification. -/
import Derived.Test.YtpgbjpfpgbjbeaaGreatDoorJCh50
namespace Go.Proofs.YtpgbjpfpgbjbeaaGreatDoor
open Go.RowKit Go.Deep
set_option linter.unusedVariables false
set_option linter.unusedSimpArgs false
namespace Kw
open Ex (inR evalCode evalVal vFault hid specIn)
open St (StepD)
open Ch (RunD)
open Pf
open Kc (CS upd zer endOf stopped idle kid go mE mO Ok chartC csOf fA fD of_c of_num of_state fA_eq fD_eq)
open Kt (Row Pos SAt Ride TPost optI specGo specIdle)
open Kv
set_option maxRecDepth 100000 in
set_option maxHeartbeats 16000000 in
theorem specMailChart (B : Nat) (ss : List StepD) (r : RunD) (msg : Int) (v v1 v2 v3 : Value) (w : World) (hsm : St.Small 1048576 ss) (hs : Ch.Small 1048576 r) (ha : St.At w B v ss) (hc : Ch.At w 0 v1 v2 v3 r) :
    Calls Tryz.prog 27 #[v, .agg #[.int .i64 r.status, .int .i64 r.now, v1, v2, v3], .int .i64 msg] w (SPost (mailC ss r msg) (mailR ss r msg) w) := by
  have HSM := hid hs
  obtain ⟨a, cap, rfl⟩ := ha.slice
  obtain ⟨a1, c1, rfl⟩ := hc.vars.slice
  obtain ⟨a2, c2, rfl⟩ := hc.marks.slice
  obtain ⟨a3, c3, rfl⟩ := hc.dues.slice
  obtain ⟨w0, e0⟩ : ∃ w0, w0 = (w.alloc (.cells #[.int .i64 r.status, .int .i64 r.now, .slice a1 r.vars.length c1, .slice a2 r.marks.length c2, .slice a3 r.dues.length c3] 26)).alloc (.cells #[.int .i64 0, .int .i64 0, .int .i64 0, .slice none 0 0, .slice none 0 0, .slice none 0 0] 28) := ⟨_, rfl⟩
  have hb0 : Below w.heap.size w w0 := by rw [e0]; exact ((Below.refl _ w).alloc (Nat.le_refl _) _).alloc (by simp) _
  have hk0 : w0.heap[(w.heap.size + 1)]? = some (.cells #[.int .i64 0, .int .i64 0, .int .i64 0, .slice none 0 0, .slice none 0 0, .slice none 0 0] 28) := by rw [e0]; exact Ch.new_at (by simp) _
  have hq0 : w0.heap[w.heap.size]? = some (.cells #[.int .i64 r.status, .int .i64 r.now, .slice a1 r.vars.length c1, .slice a2 r.marks.length c2, .slice a3 r.dues.length c3] 26) := by rw [e0, Below.heap_alloc _ _ _ (by simp)]; exact Ch.new_blk _ _
  have HF := hid (Ks.specChartFault B ss _ w.heap.size r _ _ _ w0 hsm hs (ha.below hb0) ⟨hq0, hc.below hb0⟩)
  have HA0 := hid ((ha.mono (Nat.zero_le _)).below hb0)
  have HC0 := hid (hc.below hb0)
  have HB0 := hid hb0
  clear ha hc hsm hb0 hs
  go_enter Tryz.func27, Tryz.ntmps27
  go_wp2_with fail
  rw [← e0]
  clear e0
  refine HF.out.mono ?_
  rintro e w1 ⟨rfl, hb1⟩
  have hk1 := rb_b hk0 hb1
  have hq1 := rb_b hq0 hb1
  have HB1 := hid (HB0.out.trans (hb1.mono HB0.out.size))
  have HA1 := hid (HA0.out.below hb1)
  have HC1 := hid (HC0.out.below hb1)
  clear HF HB0 hb1 hk0 hq0 HA0 HC0
  by_cases hz : chartC ss r = 0
  · have b0 : (chartC ss r != 0) = false := by simp [hz]
    have HZ := hid hz
    have HP := hid (of_c hz).1
    have HOK := hid (ok_of hz)
    have HIV := hid (inv_of hz)
    have hl : ss.length ≤ 24 := by have := (of_p HP.out).1; omega
    have HML := hid (of_num (of_c hz).2.1).2.1
    clear hz
    have HIN := hid (specIn msg 0 9 w1)
    by_cases h1 : msg < 0 ∨ 9 < msg
    · have HX := hid (m_msg HZ.out h1)
      rw [show inR msg 0 9 = false from Ex.inR_not.2 (by omega)] at HIN
      generalize mailC ss r msg = tc at *
      generalize mailR ss r msg = tr at *
      have HBD := hid (specBad (3) w1)
      go_wp2_with (first | (go_at_call 48; refine HIN.out.mono ?_; rintro e w9 ⟨rfl, hw9⟩; replace hw9 := hw9.symm; subst hw9))
      refine HBD.out.mono ?_
      rintro e wz ⟨rfl, hbz⟩
      have hkz := rb_b hk1 hbz
      have HBZ := hid (HB1.out.trans (hbz.mono HB1.out.size))
      have f0 := Ch.blk_free hkz 0
      have f1 := Ch.blk_free hkz 1
      have f2 := Ch.blk_free hkz 2
      have f3 := Ch.blk_free hkz 3
      have f4 := Ch.blk_free hkz 4
      have f5 := Ch.blk_free hkz 5
      have g0 : wz.cell? ⟨(w.heap.size + 1), 0, none⟩ = some (.int .i64 0) := Ch.blk_cell hkz 0
      have g1 : wz.cell? ⟨(w.heap.size + 1), 1, none⟩ = some (.int .i64 0) := Ch.blk_cell hkz 1
      have g2 : wz.cell? ⟨(w.heap.size + 1), 2, none⟩ = some (.int .i64 0) := Ch.blk_cell hkz 2
      have g3 : wz.cell? ⟨(w.heap.size + 1), 3, none⟩ = some (.slice none 0 0) := Ch.blk_cell hkz 3
      have g4 : wz.cell? ⟨(w.heap.size + 1), 4, none⟩ = some (.slice none 0 0) := Ch.blk_cell hkz 4
      have g5 : wz.cell? ⟨(w.heap.size + 1), 5, none⟩ = some (.slice none 0 0) := Ch.blk_cell hkz 5
      have gl := Ch.blk_lt hkz
      clear hbz
      go_wp2
      refine bodyPost_ret (results_cell_row Tryz.results27 _ _ (w.heap.size + 1) 28 #[.int .i64 (3), .int .i64 0, .int .i64 0, .slice none 0 0, .slice none 0 0, .slice none 0 0] (0, 0) _ rfl (set6 hkz _ _ _ _ _ _) Tryz.underlying28 rfl info6) rfl ?_
      exact SPost.bad HX.out HBZ.out (by omega) _ _ _ _ _ _
    · rw [show inR msg 0 9 = true from Ex.inR_iff.2 (by omega)] at HIN
      have HMS := hid h1
      have y3 : w1.cell? ⟨w.heap.size, 3, none⟩ = some (.slice a2 r.marks.length c2) := Ch.blk_cell hq1 3
      have yw := Ch.blk_lt hq1
      have HQ1 := hid hq1
      have HK1 := hid hk1
      clear hq1 hk1 h1
      obtain ⟨Fw, eF⟩ : ∃ Fw, Fw = waitF ss (csOf r) msg := ⟨_, rfl⟩
      have HF := hid eF
      clear eF
      have HNO : Hid (Fw ss.length 0 = none → mailC ss r msg = 4 ∧ mailR ss r msg = zeroR) := hid (fun h => by rw [HF.out] at h; exact m_none HZ.out HMS.out h)
      have HYES : Hid (∀ k, Fw ss.length 0 = some k → mailC ss r msg = 0 ∧ mailR ss r msg = runOf ss.length (go ss FU true k (csOf r))) := hid (fun k h => by rw [HF.out] at h; exact m_ok HZ.out HMS.out h)
      generalize mailC ss r msg = tc at *
      generalize mailR ss r msg = tr at *
      go_wp2_with (go_at_call 48; refine HIN.out.mono ?_; rintro e w9 ⟨rfl, hw9⟩; replace hw9 := hw9.symm; subst hw9)
      go_loop [8] (fun x => ∃ k : Nat, x = .int .i64 k ∧ k ≤ ss.length ∧ Hid (Fw ss.length 0 = Fw (ss.length - k) k)) (fun x => ss.length - (intOf x).toNat)
      case atStart => exact ⟨0, rfl, Nat.zero_le _, hid rfl⟩
      case round =>
        obtain ⟨k, rfl, hk, HFk⟩ := hrel
        by_cases hlt : k < ss.length
        · obtain ⟨g, o, vc, ve, e1, hg, p0, p1, p2, p3, p4, p5, hcn, hen⟩ := HA1.out.at hlt
          cases e1
          clear p1 p2 p4 p5 hcn hen
          have hkm : k < r.marks.length := by rw [HML.out]; exact hlt
          obtain ⟨gm, om, em, hgm, pm⟩ := HC1.out.marks.at hkm
          cases em
          rw [← fA_eq hkm] at pm
          have q1 : (k : Int) < (ss.length : Int) := by omega
          have q2 : (0 : Int) ≤ (k : Int) := by omega
          have q3 : (k : Int) < (r.marks.length : Int) := by omega
          have HN : Hid (Fw (ss.length - k) k = if ss[k].kind = 5 ∧ ss[k].arg = msg ∧ fA r k = 1 then some k else Fw (ss.length - (k + 1)) (k + 1)) := hid (by rw [HF.out, show ss.length - k = (ss.length - (k + 1)) + 1 by omega, waitF, PJ_eq hlt]; rfl)
          by_cases h1 : ss[k].kind = 5
          · have b1 : (ss[k].kind == 5) = true := by simp [h1]
            by_cases h2 : ss[k].arg = msg
            · have b2 : (ss[k].arg == msg) = true := by simp [h2]
              by_cases h3 : fA r k = 1
              · have b3 : (fA r k == 1) = true := by simp [h3]
                have HX := hid (HYES.out k (by rw [HFk.out, HN.out, if_pos ⟨h1, h2, h3⟩]))
                have hq1 := HQ1.out
                have hk1 := HK1.out
                have yx := y3
                clear y3 h1 h2 h3 HN HFk
                have HCP := hid (specCopy r _ _ _ w1 HSM.out HC1.out)
                have y0 := Ch.blk_cell hq1 0
                have y1 := Ch.blk_cell hq1 1
                have y2 := Ch.blk_cell hq1 2
                have y3 := Ch.blk_cell hq1 3
                have y4 := Ch.blk_cell hq1 4
                have yl := Ch.blk_lt hq1
                simp at y0 y1 y2 y3 y4
                go_wp2_with fail
                refine HCP.out.mono ?_
                rintro e w3 hT
                obtain ⟨b1, b2, b3, d1, d2, d3, rfl, l1, l2, l3, r1, r2, r3, hb3⟩ := hT
                obtain ⟨w4, e4⟩ : ∃ w4, w4 = w3.alloc (.cells #[.int .i64 r.status, .int .i64 r.now, .slice (some ⟨b1, 0, none⟩) r.vars.length d1, .slice (some ⟨b2, 0, none⟩) r.marks.length d2, .slice (some ⟨b3, 0, none⟩) r.dues.length d3] 26) := ⟨_, rfl⟩
                have hb4 : Below w3.heap.size w3 w4 := by rw [e4]; exact (Below.refl _ w3).alloc (Nat.le_refl _) _
                have lr3 := r3.lt
                have HS4 : Hid (SAt w1 w4 ⟨w3.heap.size, b2, b3, b1, d2, d3, d1⟩ (.slice (some ⟨g, o, none⟩) ss.length cap) ss (csOf r)) := hid (of_copy (wc := w3) HZ.out HA1.out (hb3.trans (hb4.mono hb3.size)) l1 l2 l3 lr3 (by rw [e4]; exact Ch.new_blk _ _) (Row.below r1 hb4) (Row.below r2 hb4) (Row.below r3 hb4))
                have hbx : Below w1.heap.size w1 w4 := hb3.trans (hb4.mono hb3.size)
                have hk4 := rb_b hk1 hbx
                have HB4 := hid (HB1.out.trans (hbx.mono HB1.out.size))
                have lW : (w.heap.size + 1) < w1.heap.size := Ch.blk_lt hk1
                have E4 := hid e4
                clear hb3 hb4 hbx e4 r1 r2 r3 y0 y1 y2 y3 y4 yl l1 l2 l3 lr3 HCP
                have HKX := hid hk4
                have HSX := hid HS4.out
                have HBX := hid HB4.out
                have HOV := hid ((specGo w1 ⟨w3.heap.size, b2, b3, b1, d2, d3, d1⟩ (.slice (some ⟨g, o, none⟩) ss.length cap) ss HP.out FU).2 k (csOf r) w4 hlt (fuelO HP.out hlt) HOK.out HS4.out)
                clear hk4 hq1 hk1 pm p0 p3
                go_wp2_with fail
                rw [← E4.out]
                refine HOV.out.mono ?_
                rintro e w6 hT
                obtain rfl := hT.1
                have HU := hid hT
                clear hT E4 yx
                have hk6 := ride_b HU.out.2.2 HSX.out lW HKX.out
                have HB6 := hid (ride_below HU.out.2.2 HSX.out HBX.out (by omega))
                have HS6 := hid HU.out.2.1
                have y0 := HS6.out.c0
                have y1 := HS6.out.c1
                have y2 := HS6.out.c2
                have y3 := HS6.out.c3
                have y4 := HS6.out.c4
                have yl := Ch.blk_lt HS6.out.blk
                have f0 := Ch.blk_free hk6 0
                have f1 := Ch.blk_free hk6 1
                have f2 := Ch.blk_free hk6 2
                have f3 := Ch.blk_free hk6 3
                have f4 := Ch.blk_free hk6 4
                have f5 := Ch.blk_free hk6 5
                have g0 : w6.cell? ⟨(w.heap.size + 1), 0, none⟩ = some (.int .i64 0) := Ch.blk_cell hk6 0
                have g1 : w6.cell? ⟨(w.heap.size + 1), 1, none⟩ = some (.int .i64 0) := Ch.blk_cell hk6 1
                have g2 : w6.cell? ⟨(w.heap.size + 1), 2, none⟩ = some (.int .i64 0) := Ch.blk_cell hk6 2
                have g3 : w6.cell? ⟨(w.heap.size + 1), 3, none⟩ = some (.slice none 0 0) := Ch.blk_cell hk6 3
                have g4 : w6.cell? ⟨(w.heap.size + 1), 4, none⟩ = some (.slice none 0 0) := Ch.blk_cell hk6 4
                have g5 : w6.cell? ⟨(w.heap.size + 1), 5, none⟩ = some (.slice none 0 0) := Ch.blk_cell hk6 5
                have gl := Ch.blk_lt hk6
                dsimp only at y0 y1 y2 y3 y4 yl
                generalize go ss FU true k (csOf r) = sf at *
                go_wp2
                refine bodyPost_ret (results_cell_row Tryz.results27 _ _ (w.heap.size + 1) 28 #[.int .i64 0, .int .i64 sf.status, .int .i64 sf.now, .slice (some ⟨b1, 0, none⟩) 4 d1, .slice (some ⟨b2, 0, none⟩) ss.length d2, .slice (some ⟨b3, 0, none⟩) ss.length d3] (0, 0) _ rfl (set6 hk6 _ _ _ _ _ _) Tryz.underlying28 rfl info6) rfl ?_
                exact SPost.good HX.out HS6.out HB6.out (by omega) lW _ _ _ _ _ _
              · have b3 : (fA r k == 1) = false := by simp [h3]
                have HV : Hid (Fw ss.length 0 = Fw (ss.length - (k + 1)) (k + 1)) := hid (by rw [HFk.out, HN.out, if_neg (fun h => h3 h.2.2)])
                clear HN HFk
                go_wp2
                exact ⟨⟨k + 1, by simp, by omega, HV⟩, by simp [intOf]; omega⟩
            · have b2 : (ss[k].arg == msg) = false := by simp [h2]
              have HV : Hid (Fw ss.length 0 = Fw (ss.length - (k + 1)) (k + 1)) := hid (by rw [HFk.out, HN.out, if_neg (fun h => h2 h.2.1)])
              clear HN HFk
              go_wp2
              exact ⟨⟨k + 1, by simp, by omega, HV⟩, by simp [intOf]; omega⟩
          · have b1 : (ss[k].kind == 5) = false := by simp [h1]
            have HV : Hid (Fw ss.length 0 = Fw (ss.length - (k + 1)) (k + 1)) := hid (by rw [HFk.out, HN.out, if_neg (fun h => h1 h.1)])
            clear HN HFk
            go_wp2
            exact ⟨⟨k + 1, by simp, by omega, HV⟩, by simp [intOf]; omega⟩
        · have HX := hid (HNO.out (by rw [HFk.out, show ss.length - k = 0 by omega, HF.out]; rfl))
          have q1 : ¬ (k : Int) < (ss.length : Int) := by omega
          have hk1 := HK1.out
          clear HFk
          have HBD := hid (specBad (4) w1)
          go_wp2_with fail
          refine HBD.out.mono ?_
          rintro e wz ⟨rfl, hbz⟩
          have hkz := rb_b hk1 hbz
          have HBZ := hid (HB1.out.trans (hbz.mono HB1.out.size))
          have f0 := Ch.blk_free hkz 0
          have f1 := Ch.blk_free hkz 1
          have f2 := Ch.blk_free hkz 2
          have f3 := Ch.blk_free hkz 3
          have f4 := Ch.blk_free hkz 4
          have f5 := Ch.blk_free hkz 5
          have g0 : wz.cell? ⟨(w.heap.size + 1), 0, none⟩ = some (.int .i64 0) := Ch.blk_cell hkz 0
          have g1 : wz.cell? ⟨(w.heap.size + 1), 1, none⟩ = some (.int .i64 0) := Ch.blk_cell hkz 1
          have g2 : wz.cell? ⟨(w.heap.size + 1), 2, none⟩ = some (.int .i64 0) := Ch.blk_cell hkz 2
          have g3 : wz.cell? ⟨(w.heap.size + 1), 3, none⟩ = some (.slice none 0 0) := Ch.blk_cell hkz 3
          have g4 : wz.cell? ⟨(w.heap.size + 1), 4, none⟩ = some (.slice none 0 0) := Ch.blk_cell hkz 4
          have g5 : wz.cell? ⟨(w.heap.size + 1), 5, none⟩ = some (.slice none 0 0) := Ch.blk_cell hkz 5
          have gl := Ch.blk_lt hkz
          clear hbz
          go_wp2
          refine bodyPost_ret (results_cell_row Tryz.results27 _ _ (w.heap.size + 1) 28 #[.int .i64 (4), .int .i64 0, .int .i64 0, .slice none 0 0, .slice none 0 0, .slice none 0 0] (0, 0) _ rfl (set6 hkz _ _ _ _ _ _) Tryz.underlying28 rfl info6) rfl ?_
          exact SPost.bad HX.out HBZ.out (by omega) _ _ _ _ _ _
  · have b0 : (chartC ss r != 0) = true := bne_iff_ne.2 hz
    have HX := hid (m_chart (msg := msg) hz)
    clear hz
    generalize mailC ss r msg = tc at *
    generalize mailR ss r msg = tr at *
    generalize chartC ss r = pf at *
    have HBD := hid (specBad (pf) w1)
    go_wp2_with fail
    refine HBD.out.mono ?_
    rintro e wz ⟨rfl, hbz⟩
    have hkz := rb_b hk1 hbz
    have HBZ := hid (HB1.out.trans (hbz.mono HB1.out.size))
    have f0 := Ch.blk_free hkz 0
    have f1 := Ch.blk_free hkz 1
    have f2 := Ch.blk_free hkz 2
    have f3 := Ch.blk_free hkz 3
    have f4 := Ch.blk_free hkz 4
    have f5 := Ch.blk_free hkz 5
    have g0 : wz.cell? ⟨(w.heap.size + 1), 0, none⟩ = some (.int .i64 0) := Ch.blk_cell hkz 0
    have g1 : wz.cell? ⟨(w.heap.size + 1), 1, none⟩ = some (.int .i64 0) := Ch.blk_cell hkz 1
    have g2 : wz.cell? ⟨(w.heap.size + 1), 2, none⟩ = some (.int .i64 0) := Ch.blk_cell hkz 2
    have g3 : wz.cell? ⟨(w.heap.size + 1), 3, none⟩ = some (.slice none 0 0) := Ch.blk_cell hkz 3
    have g4 : wz.cell? ⟨(w.heap.size + 1), 4, none⟩ = some (.slice none 0 0) := Ch.blk_cell hkz 4
    have g5 : wz.cell? ⟨(w.heap.size + 1), 5, none⟩ = some (.slice none 0 0) := Ch.blk_cell hkz 5
    have gl := Ch.blk_lt hkz
    clear hbz
    go_wp2
    refine bodyPost_ret (results_cell_row Tryz.results27 _ _ (w.heap.size + 1) 28 #[.int .i64 (pf), .int .i64 0, .int .i64 0, .slice none 0 0, .slice none 0 0, .slice none 0 0] (0, 0) _ rfl (set6 hkz _ _ _ _ _ _) Tryz.underlying28 rfl info6) rfl ?_
    exact SPost.bad HX.out HBZ.out (by omega) _ _ _ _ _ _
end Kw
end Go.Proofs.YtpgbjpfpgbjbeaaGreatDoor
