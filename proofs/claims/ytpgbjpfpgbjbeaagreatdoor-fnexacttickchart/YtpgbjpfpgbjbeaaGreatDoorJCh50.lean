/- DoneChart, TickChart and MailChart of the specification. -/
import Derived.Test.YtpgbjpfpgbjbeaaGreatDoorJCh49
namespace Go.Proofs.YtpgbjpfpgbjbeaaGreatDoor
open Go.RowKit Go.Deep
set_option linter.unusedVariables false
set_option linter.unusedSimpArgs false
namespace Kw
open Ex (inR evalCode evalVal vFault hid specIn)
open St (StepD)
open Ch (RunD)
open Pf
open Kc (CS upd zer endOf stopped idle kid go mE mO Ok chartC csOf fA fD of_c of_num of_state fA_eq fD_eq)
open Kt (Row Pos SAt Ride TPost optI specGo specIdle)
open Kv
theorem SPost.bad {w w2 : World} {P0 : Nat} {code cc : Int} {r : RunD} (h : code = cc ∧ r = zeroR) (hb : Below w.heap.size w w2) (hP : w.heap.size ≤ P0) (a0 a1 a2 a3 a4 a5 : Value) :
    SPost code r w (.returned (.agg #[.int .i64 cc, .int .i64 0, .int .i64 0, .slice none 0 0, .slice none 0 0, .slice none 0 0])) ((((((w2.setCell ⟨P0, 0, none⟩ a0).setCell ⟨P0, 1, none⟩ a1).setCell ⟨P0, 2, none⟩ a2).setCell ⟨P0, 3, none⟩ a3).setCell ⟨P0, 4, none⟩ a4).setCell ⟨P0, 5, none⟩ a5) := by
  obtain ⟨rfl, rfl⟩ := h
  exact ⟨_, _, _, rfl, zero_at _ _, below6 hb hP _ _ _ _ _ _⟩
theorem SPost.good {wg w w2 : World} {P0 : Nat} {P : Pos} {v : Value} {ss : List StepD} {s : CS} {code : Int} {r : RunD} (h : code = 0 ∧ r = runOf ss.length s) (hS : SAt wg w2 P v ss s) (hb : Below w.heap.size w w2) (hP : w.heap.size ≤ P0) (hl : P0 < wg.heap.size) (a0 a1 a2 a3 a4 a5 : Value) :
    SPost code r w (.returned (.agg #[.int .i64 0, .int .i64 s.status, .int .i64 s.now, .slice (some ⟨P.V, 0, none⟩) 4 P.cv, .slice (some ⟨P.A, 0, none⟩) ss.length P.ca, .slice (some ⟨P.D, 0, none⟩) ss.length P.cd])) ((((((w2.setCell ⟨P0, 0, none⟩ a0).setCell ⟨P0, 1, none⟩ a1).setCell ⟨P0, 2, none⟩ a2).setCell ⟨P0, 3, none⟩ a3).setCell ⟨P0, 4, none⟩ a4).setCell ⟨P0, 5, none⟩ a5) := by
  obtain ⟨rfl, rfl⟩ := h
  have o1 := hS.oA
  have o2 := hS.oD
  have o3 := hS.oV
  refine ⟨_, _, _, rfl, ⟨?_, ?_, ?_⟩, below6 hb hP _ _ _ _ _ _⟩
  · exact (hS.rv.kept (heap6 (by omega) _ _ _ _ _ _)).nu hS.len (fun i _ => rfl) _ (by omega)
  · exact (hS.ra.kept (heap6 (by omega) _ _ _ _ _ _)).nu (by simp [runOf]) (fun i hi => by simp [runOf, hi]) _ (by omega)
  · exact (hS.rd.kept (heap6 (by omega) _ _ _ _ _ _)).nu (by simp [runOf]) (fun i hi => by simp [runOf, hi]) _ (by omega)
/-- A copy in a variable is a chart under way. -/
theorem of_copy {wg wc wx : World} {ss : List StepD} {v : Value} {r : RunD} {b1 b2 b3 d1 d2 d3 R : Nat} (hz : chartC ss r = 0) (hst : St.At wg 0 v ss) (hb : Below wg.heap.size wg wx) (l1 : wg.heap.size ≤ b1) (l2 : b1 < b2) (l3 : b2 < b3) (lR : b3 < R) (hR : wx.heap[R]? = some (.cells #[.int .i64 r.status, .int .i64 r.now, .slice (some ⟨b1, 0, none⟩) r.vars.length d1, .slice (some ⟨b2, 0, none⟩) r.marks.length d2, .slice (some ⟨b3, 0, none⟩) r.dues.length d3] 26))
    (h1 : Row wx b1 r.vars.length d1 (gf r.vars)) (h2 : Row wx b2 r.marks.length d2 (gf r.marks)) (h3 : Row wx b3 r.dues.length d3 (gf r.dues)) : SAt wg wx ⟨R, b2, b3, b1, d2, d3, d1⟩ v ss (csOf r) := by
  obtain ⟨hp, hn, _⟩ := of_c hz
  obtain ⟨hs, hm, hd, _, _⟩ := of_num hn
  have h4 := (Ex.of_v (of_state hs).2.2).1
  refine ⟨hst, hb, ?_, ?_, ?_, ?_, ?_, ?_, ?_, ?_, ?_, ?_, ?_, ?_, ?_, ?_, ?_⟩
  · show wg.heap.size ≤ R; omega
  · show wg.heap.size ≤ b2; omega
  · show wg.heap.size ≤ b3; omega
  · exact l1
  · show R ≠ b2; omega
  · show R ≠ b3; omega
  · show R ≠ b1; omega
  · show b2 ≠ b3; omega
  · show b2 ≠ b1; omega
  · show b3 ≠ b1; omega
  · show wx.heap[R]? = some (.cells #[.int .i64 r.status, .int .i64 r.now, .slice (some ⟨b1, 0, none⟩) 4 d1, .slice (some ⟨b2, 0, none⟩) ss.length d2, .slice (some ⟨b3, 0, none⟩) ss.length d3] 26)
    rw [hR, h4, hm, hd]
  · show Row wx b2 ss.length d2 (fA r)
    rw [← hm]; exact h2
  · show Row wx b3 ss.length d3 (fD r)
    rw [← hd]; exact h3
  · show Row wx b1 4 d1 (Kt.vf (csOf r))
    rw [← h4]; exact h1
  · exact h4
theorem rb_b {w w' : World} {P : Nat} {o : Obj} (h : w.heap[P]? = some o) (hb : Below w.heap.size w w') : w'.heap[P]? = some o := (hb.block P (Ch.blk_lt h)).trans h
theorem ride_b {P : Pos} {w w' : World} {b : Nat} {o : Obj} {wg : World} {v : Value} {ss : List StepD} {s : CS} (h : Ride P w w') (hs : SAt wg w P v ss s) (hb : b < wg.heap.size) (hk : w.heap[b]? = some o) : w'.heap[b]? = some o :=
  (h.block b (Ch.blk_lt hk) (by have := hs.oR; omega) (by have := hs.oA; omega) (by have := hs.oD; omega) (by have := hs.oV; omega)).trans hk
theorem ride_below {P : Pos} {x w w' wg : World} {v : Value} {ss : List StepD} {s : CS} (h : Ride P w w') (hs : SAt wg w P v ss s) (hb : Below x.heap.size x w) (hl : x.heap.size ≤ wg.heap.size) : Below x.heap.size x w' :=
  ⟨h.os.trans hb.os, h.tape.trans hb.tape, h.output.trans hb.output, Nat.le_trans hb.size h.size, fun b hb' => (h.block b (Nat.lt_of_lt_of_le hb' hb.size) (by have := hs.oR; omega) (by have := hs.oA; omega) (by have := hs.oD; omega) (by have := hs.oV; omega)).trans (hb.block b hb')⟩
theorem SAt.newV {wg w : World} {P : Pos} {v : Value} {ss : List StepD} {s : CS} (h : SAt wg w P v ss s) {vars : List Int} {b c : Nat} (h4 : vars.length = 4) (hl : P.R < b ∧ P.A < b ∧ P.D < b ∧ P.V < b) (hr : Row w b vars.length c (gf vars)) :
    SAt wg (w.setCell ⟨P.R, 2, none⟩ (.slice (some ⟨b, 0, none⟩) vars.length c)) ⟨P.R, P.A, P.D, b, P.ca, P.cd, c⟩ v ss { s with vars := vars } := by
  rw [h4] at hr ⊢
  have o1 := h.oR
  refine ⟨h.st, h.bel.setCell (p := ⟨P.R, 2, none⟩) h.oR _, h.oR, h.oA, h.oD, ?_, h.rA, h.rD, ?_, h.aD, ?_, ?_, ?_, h.ra.kept (Kt.hset (Ne.symm h.rA)), h.rd.kept (Kt.hset (Ne.symm h.rD)), ?_, h4⟩
  · show wg.heap.size ≤ b; omega
  · show P.R ≠ b; omega
  · show P.A ≠ b; omega
  · show P.D ≠ b; omega
  · have := Ch.blk_set (i := 2) h.blk (.slice (some ⟨b, 0, none⟩) 4 c)
    simpa using this
  · exact hr.kept (Kt.hset (by omega))
set_option maxRecDepth 100000 in
set_option maxHeartbeats 16000000 in
theorem specTickChart (B : Nat) (ss : List StepD) (r : RunD) (now : Int) (v v1 v2 v3 : Value) (w : World) (hsm : St.Small 1048576 ss) (hs : Ch.Small 1048576 r) (ha : St.At w B v ss) (hc : Ch.At w 0 v1 v2 v3 r) :
    Calls Tryz.prog 25 #[v, .agg #[.int .i64 r.status, .int .i64 r.now, v1, v2, v3], .int .i64 now] w (SPost (tickK ss r now) (tickR ss r now) w) := by
  have HSM := hid hs
  obtain ⟨a, cap, rfl⟩ := ha.slice
  obtain ⟨a1, c1, rfl⟩ := hc.vars.slice
  obtain ⟨a2, c2, rfl⟩ := hc.marks.slice
  obtain ⟨a3, c3, rfl⟩ := hc.dues.slice
  obtain ⟨w0, e0⟩ : ∃ w0, w0 = (w.alloc (.cells #[.int .i64 r.status, .int .i64 r.now, .slice a1 r.vars.length c1, .slice a2 r.marks.length c2, .slice a3 r.dues.length c3] 26)).alloc (.cells #[.int .i64 0, .int .i64 0, .int .i64 0, .slice none 0 0, .slice none 0 0, .slice none 0 0] 28) := ⟨_, rfl⟩
  have hb0 : Below w.heap.size w w0 := by rw [e0]; exact ((Below.refl _ w).alloc (Nat.le_refl _) _).alloc (by simp) _
  have hk0 : w0.heap[(w.heap.size + 1)]? = some (.cells #[.int .i64 0, .int .i64 0, .int .i64 0, .slice none 0 0, .slice none 0 0, .slice none 0 0] 28) := by rw [e0]; exact Ch.new_at (by simp) _
  have hq0 : w0.heap[w.heap.size]? = some (.cells #[.int .i64 r.status, .int .i64 r.now, .slice a1 r.vars.length c1, .slice a2 r.marks.length c2, .slice a3 r.dues.length c3] 26) := by rw [e0, Below.heap_alloc _ _ _ (by simp)]; exact Ch.new_blk _ _
  have HF := hid (Ks.specChartFault B ss _ w.heap.size r _ _ _ w0 hsm hs (ha.below hb0) ⟨hq0, hc.below hb0⟩)
  have HA0 := hid ((ha.mono (Nat.zero_le _)).below hb0)
  have HC0 := hid (hc.below hb0)
  have HB0 := hid hb0
  clear ha hc hsm hb0 hs
  go_enter Tryz.func25, Tryz.ntmps25
  go_wp2_with fail
  rw [← e0]
  clear e0
  refine HF.out.mono ?_
  rintro e w1 ⟨rfl, hb1⟩
  have hk1 := rb_b hk0 hb1
  have hq1 := rb_b hq0 hb1
  have HB1 := hid (HB0.out.trans (hb1.mono HB0.out.size))
  have HA1 := hid (HA0.out.below hb1)
  have HC1 := hid (HC0.out.below hb1)
  clear HF HB0 hb1 hk0 hq0 HA0 HC0
  by_cases hz : chartC ss r = 0
  · have b0 : (chartC ss r != 0) = false := by simp [hz]
    have HZ := hid hz
    have HP := hid (of_c hz).1
    have HOK := hid (ok_of hz)
    have HIV := hid (inv_of hz)
    have hl : ss.length ≤ 24 := by have := (of_p HP.out).1; omega
    have HML := hid (of_num (of_c hz).2.1).2.1
    clear hz
    have n0 : (0 : Int) ≤ r.now := HOK.out.lo
    have yn : w1.cell? ⟨w.heap.size, 1, none⟩ = some (.int .i64 r.now) := Ch.blk_cell hq1 1
    have yw := Ch.blk_lt hq1
    have HTM := hid (Ks.specTime now w1)
    by_cases h1 : now < r.now
    · have HX := hid (t_now HZ.out (.inl h1))
      generalize tickK ss r now = tc at *
      generalize tickR ss r now = tr at *
      clear HTM
      have HBD := hid (specBad (3) w1)
      go_wp2_with fail
      refine HBD.out.mono ?_
      rintro e wz ⟨rfl, hbz⟩
      have hkz := rb_b hk1 hbz
      have HBZ := hid (HB1.out.trans (hbz.mono HB1.out.size))
      have f0 := Ch.blk_free hkz 0
      have f1 := Ch.blk_free hkz 1
      have f2 := Ch.blk_free hkz 2
      have f3 := Ch.blk_free hkz 3
      have f4 := Ch.blk_free hkz 4
      have f5 := Ch.blk_free hkz 5
      have g0 : wz.cell? ⟨(w.heap.size + 1), 0, none⟩ = some (.int .i64 0) := Ch.blk_cell hkz 0
      have g1 : wz.cell? ⟨(w.heap.size + 1), 1, none⟩ = some (.int .i64 0) := Ch.blk_cell hkz 1
      have g2 : wz.cell? ⟨(w.heap.size + 1), 2, none⟩ = some (.int .i64 0) := Ch.blk_cell hkz 2
      have g3 : wz.cell? ⟨(w.heap.size + 1), 3, none⟩ = some (.slice none 0 0) := Ch.blk_cell hkz 3
      have g4 : wz.cell? ⟨(w.heap.size + 1), 4, none⟩ = some (.slice none 0 0) := Ch.blk_cell hkz 4
      have g5 : wz.cell? ⟨(w.heap.size + 1), 5, none⟩ = some (.slice none 0 0) := Ch.blk_cell hkz 5
      have gl := Ch.blk_lt hkz
      clear hbz
      go_wp2
      refine bodyPost_ret (results_cell_row Tryz.results25 _ _ (w.heap.size + 1) 28 #[.int .i64 (3), .int .i64 0, .int .i64 0, .slice none 0 0, .slice none 0 0, .slice none 0 0] (0, 0) _ rfl (set6 hkz _ _ _ _ _ _) Tryz.underlying28 rfl info6) rfl ?_
      exact SPost.bad HX.out HBZ.out (by omega) _ _ _ _ _ _
    by_cases h2 : 1000000 < now
    · have HX := hid (t_now HZ.out (.inr h2))
      rw [show inR now 0 1000000 = false from Ex.inR_not.2 (by omega)] at HTM
      generalize tickK ss r now = tc at *
      generalize tickR ss r now = tr at *
      have HBD := hid (specBad (3) w1)
      go_wp2_with (first | (go_at_call 33; refine HTM.out.mono ?_; rintro e w9 ⟨rfl, hw9⟩; replace hw9 := hw9.symm; subst hw9))
      refine HBD.out.mono ?_
      rintro e wz ⟨rfl, hbz⟩
      have hkz := rb_b hk1 hbz
      have HBZ := hid (HB1.out.trans (hbz.mono HB1.out.size))
      have f0 := Ch.blk_free hkz 0
      have f1 := Ch.blk_free hkz 1
      have f2 := Ch.blk_free hkz 2
      have f3 := Ch.blk_free hkz 3
      have f4 := Ch.blk_free hkz 4
      have f5 := Ch.blk_free hkz 5
      have g0 : wz.cell? ⟨(w.heap.size + 1), 0, none⟩ = some (.int .i64 0) := Ch.blk_cell hkz 0
      have g1 : wz.cell? ⟨(w.heap.size + 1), 1, none⟩ = some (.int .i64 0) := Ch.blk_cell hkz 1
      have g2 : wz.cell? ⟨(w.heap.size + 1), 2, none⟩ = some (.int .i64 0) := Ch.blk_cell hkz 2
      have g3 : wz.cell? ⟨(w.heap.size + 1), 3, none⟩ = some (.slice none 0 0) := Ch.blk_cell hkz 3
      have g4 : wz.cell? ⟨(w.heap.size + 1), 4, none⟩ = some (.slice none 0 0) := Ch.blk_cell hkz 4
      have g5 : wz.cell? ⟨(w.heap.size + 1), 5, none⟩ = some (.slice none 0 0) := Ch.blk_cell hkz 5
      have gl := Ch.blk_lt hkz
      clear hbz
      go_wp2
      refine bodyPost_ret (results_cell_row Tryz.results25 _ _ (w.heap.size + 1) 28 #[.int .i64 (3), .int .i64 0, .int .i64 0, .slice none 0 0, .slice none 0 0, .slice none 0 0] (0, 0) _ rfl (set6 hkz _ _ _ _ _ _) Tryz.underlying28 rfl info6) rfl ?_
      exact SPost.bad HX.out HBZ.out (by omega) _ _ _ _ _ _
    have HX := hid (t_ok (now := now) HZ.out (by omega))
    rw [show inR now 0 1000000 = true from Ex.inR_iff.2 (by omega)] at HTM
    have HOK3 : Hid (Ok { csOf r with now := now }) := hid ⟨HOK.out.vars, by show (0 : Int) ≤ now; omega, by show now ≤ 1000000; omega⟩
    have HIV3 : Hid (Inv ss { csOf r with now := now }) := hid (inv_now HIV.out now)
    have HCP := hid (specCopy r _ _ _ w1 HSM.out HC1.out)
    have y0 := Ch.blk_cell hq1 0
    have y1 := Ch.blk_cell hq1 1
    have y2 := Ch.blk_cell hq1 2
    have y3 := Ch.blk_cell hq1 3
    have y4 := Ch.blk_cell hq1 4
    have yl := Ch.blk_lt hq1
    simp at y0 y1 y2 y3 y4
    go_wp2_with (first | (go_at_call 33; refine HTM.out.mono ?_; rintro e w9 ⟨rfl, hw9⟩; replace hw9 := hw9.symm; subst hw9))
    refine HCP.out.mono ?_
    rintro e w3 hT
    obtain ⟨b1, b2, b3, d1, d2, d3, rfl, l1, l2, l3, r1, r2, r3, hb3⟩ := hT
    obtain ⟨w4, e4⟩ : ∃ w4, w4 = w3.alloc (.cells #[.int .i64 r.status, .int .i64 r.now, .slice (some ⟨b1, 0, none⟩) r.vars.length d1, .slice (some ⟨b2, 0, none⟩) r.marks.length d2, .slice (some ⟨b3, 0, none⟩) r.dues.length d3] 26) := ⟨_, rfl⟩
    have hb4 : Below w3.heap.size w3 w4 := by rw [e4]; exact (Below.refl _ w3).alloc (Nat.le_refl _) _
    have lr3 := r3.lt
    have HS4 : Hid (SAt w1 w4 ⟨w3.heap.size, b2, b3, b1, d2, d3, d1⟩ (.slice a ss.length cap) ss (csOf r)) := hid (of_copy (wc := w3) HZ.out HA1.out (hb3.trans (hb4.mono hb3.size)) l1 l2 l3 lr3 (by rw [e4]; exact Ch.new_blk _ _) (Row.below r1 hb4) (Row.below r2 hb4) (Row.below r3 hb4))
    have hbx : Below w1.heap.size w1 w4 := hb3.trans (hb4.mono hb3.size)
    have hk4 := rb_b hk1 hbx
    have HB4 := hid (HB1.out.trans (hbx.mono HB1.out.size))
    have lW : (w.heap.size + 1) < w1.heap.size := Ch.blk_lt hk1
    have E4 := hid e4
    clear hb3 hb4 hbx e4 r1 r2 r3 y0 y1 y2 y3 y4 yl l1 l2 l3 lr3 HCP
    have HTT := hid (specTick w1 w4 _ _ ss (csOf r) now HP.out HOK3.out HIV3.out HS4.out)
    have HKX := hid hk4
    have HSX := hid HS4.out
    have HBX := hid HB4.out
    clear hk4 hq1 hk1
    go_wp2_with fail
    rw [← E4.out]
    refine HTT.out.mono ?_
    rintro e w6 hT
    obtain rfl := hT.1
    have HU := hid hT
    clear hT E4 yn
    have hk6 := ride_b HU.out.2.2 HSX.out lW HKX.out
    have HB6 := hid (ride_below HU.out.2.2 HSX.out HBX.out (by omega))
    have HS6 := hid HU.out.2.1
    have y0 := HS6.out.c0
    have y1 := HS6.out.c1
    have y2 := HS6.out.c2
    have y3 := HS6.out.c3
    have y4 := HS6.out.c4
    have yl := Ch.blk_lt HS6.out.blk
    have f0 := Ch.blk_free hk6 0
    have f1 := Ch.blk_free hk6 1
    have f2 := Ch.blk_free hk6 2
    have f3 := Ch.blk_free hk6 3
    have f4 := Ch.blk_free hk6 4
    have f5 := Ch.blk_free hk6 5
    have g0 : w6.cell? ⟨(w.heap.size + 1), 0, none⟩ = some (.int .i64 0) := Ch.blk_cell hk6 0
    have g1 : w6.cell? ⟨(w.heap.size + 1), 1, none⟩ = some (.int .i64 0) := Ch.blk_cell hk6 1
    have g2 : w6.cell? ⟨(w.heap.size + 1), 2, none⟩ = some (.int .i64 0) := Ch.blk_cell hk6 2
    have g3 : w6.cell? ⟨(w.heap.size + 1), 3, none⟩ = some (.slice none 0 0) := Ch.blk_cell hk6 3
    have g4 : w6.cell? ⟨(w.heap.size + 1), 4, none⟩ = some (.slice none 0 0) := Ch.blk_cell hk6 4
    have g5 : w6.cell? ⟨(w.heap.size + 1), 5, none⟩ = some (.slice none 0 0) := Ch.blk_cell hk6 5
    have gl := Ch.blk_lt hk6
    dsimp only at y0 y1 y2 y3 y4 yl
    generalize tickC ss (csOf r) now = sf at *
    go_wp2
    refine bodyPost_ret (results_cell_row Tryz.results25 _ _ (w.heap.size + 1) 28 #[.int .i64 0, .int .i64 sf.status, .int .i64 sf.now, .slice (some ⟨b1, 0, none⟩) 4 d1, .slice (some ⟨b2, 0, none⟩) ss.length d2, .slice (some ⟨b3, 0, none⟩) ss.length d3] (0, 0) _ rfl (set6 hk6 _ _ _ _ _ _) Tryz.underlying28 rfl info6) rfl ?_
    exact SPost.good HX.out HS6.out HB6.out (by omega) lW _ _ _ _ _ _
  · have b0 : (chartC ss r != 0) = true := bne_iff_ne.2 hz
    have HX := hid (t_chart (now := now) hz)
    clear hz
    generalize tickK ss r now = tc at *
    generalize tickR ss r now = tr at *
    generalize chartC ss r = pf at *
    have HBD := hid (specBad (pf) w1)
    go_wp2_with fail
    refine HBD.out.mono ?_
    rintro e wz ⟨rfl, hbz⟩
    have hkz := rb_b hk1 hbz
    have HBZ := hid (HB1.out.trans (hbz.mono HB1.out.size))
    have f0 := Ch.blk_free hkz 0
    have f1 := Ch.blk_free hkz 1
    have f2 := Ch.blk_free hkz 2
    have f3 := Ch.blk_free hkz 3
    have f4 := Ch.blk_free hkz 4
    have f5 := Ch.blk_free hkz 5
    have g0 : wz.cell? ⟨(w.heap.size + 1), 0, none⟩ = some (.int .i64 0) := Ch.blk_cell hkz 0
    have g1 : wz.cell? ⟨(w.heap.size + 1), 1, none⟩ = some (.int .i64 0) := Ch.blk_cell hkz 1
    have g2 : wz.cell? ⟨(w.heap.size + 1), 2, none⟩ = some (.int .i64 0) := Ch.blk_cell hkz 2
    have g3 : wz.cell? ⟨(w.heap.size + 1), 3, none⟩ = some (.slice none 0 0) := Ch.blk_cell hkz 3
    have g4 : wz.cell? ⟨(w.heap.size + 1), 4, none⟩ = some (.slice none 0 0) := Ch.blk_cell hkz 4
    have g5 : wz.cell? ⟨(w.heap.size + 1), 5, none⟩ = some (.slice none 0 0) := Ch.blk_cell hkz 5
    have gl := Ch.blk_lt hkz
    clear hbz
    go_wp2
    refine bodyPost_ret (results_cell_row Tryz.results25 _ _ (w.heap.size + 1) 28 #[.int .i64 (pf), .int .i64 0, .int .i64 0, .slice none 0 0, .slice none 0 0, .slice none 0 0] (0, 0) _ rfl (set6 hkz _ _ _ _ _ _) Tryz.underlying28 rfl info6) rfl ?_
    exact SPost.bad HX.out HBZ.out (by omega) _ _ _ _ _ _
set_option maxRecDepth 100000 in
set_option maxHeartbeats 16000000 in
theorem specDoneChart (B : Nat) (ss : List StepD) (r : RunD) (step : Int) (vars : List Int) (v v1 v2 v3 vv : Value) (w : World) (hsm : St.Small 1048576 ss) (hs : Ch.Small 1048576 r) (hlv : vars.length ≤ 1048576) (ha : St.At w B v ss) (hc : Ch.At w 0 v1 v2 v3 r) (hv : Nu.At w 0 vv vars) :
    Calls Tryz.prog 20 #[v, .agg #[.int .i64 r.status, .int .i64 r.now, v1, v2, v3], .int .i64 step, vv] w (SPost (doneC ss r step vars) (doneR ss r step vars) w) := by
  have HSM := hid hs
  obtain ⟨a, cap, rfl⟩ := ha.slice
  obtain ⟨av, cv, rfl⟩ := hv.slice
  obtain ⟨a1, c1, rfl⟩ := hc.vars.slice
  obtain ⟨a2, c2, rfl⟩ := hc.marks.slice
  obtain ⟨a3, c3, rfl⟩ := hc.dues.slice
  obtain ⟨w0, e0⟩ : ∃ w0, w0 = (w.alloc (.cells #[.int .i64 r.status, .int .i64 r.now, .slice a1 r.vars.length c1, .slice a2 r.marks.length c2, .slice a3 r.dues.length c3] 26)).alloc (.cells #[.int .i64 0, .int .i64 0, .int .i64 0, .slice none 0 0, .slice none 0 0, .slice none 0 0] 28) := ⟨_, rfl⟩
  have hb0 : Below w.heap.size w w0 := by rw [e0]; exact ((Below.refl _ w).alloc (Nat.le_refl _) _).alloc (by simp) _
  have hk0 : w0.heap[(w.heap.size + 1)]? = some (.cells #[.int .i64 0, .int .i64 0, .int .i64 0, .slice none 0 0, .slice none 0 0, .slice none 0 0] 28) := by rw [e0]; exact Ch.new_at (by simp) _
  have hq0 : w0.heap[w.heap.size]? = some (.cells #[.int .i64 r.status, .int .i64 r.now, .slice a1 r.vars.length c1, .slice a2 r.marks.length c2, .slice a3 r.dues.length c3] 26) := by rw [e0, Below.heap_alloc _ _ _ (by simp)]; exact Ch.new_blk _ _
  have HF := hid (Ks.specChartFault B ss _ w.heap.size r _ _ _ w0 hsm hs (ha.below hb0) ⟨hq0, hc.below hb0⟩)
  have HA0 := hid ((ha.mono (Nat.zero_le _)).below hb0)
  have HC0 := hid (hc.below hb0)
  have HVV := hid (hv.below hb0)
  have HLV := hid hlv
  have HB0 := hid hb0
  clear ha hc hsm hb0 hs hv hlv
  go_enter Tryz.func20, Tryz.ntmps20
  go_wp2_with fail
  rw [← e0]
  clear e0
  refine HF.out.mono ?_
  rintro e w1 ⟨rfl, hb1⟩
  have hk1 := rb_b hk0 hb1
  have hq1 := rb_b hq0 hb1
  have HB1 := hid (HB0.out.trans (hb1.mono HB0.out.size))
  have HA1 := hid (HA0.out.below hb1)
  have HC1 := hid (HC0.out.below hb1)
  have HV1 := hid (HVV.out.below hb1)
  clear HF HB0 hb1 hk0 hq0 HA0 HC0 HVV
  by_cases hz : chartC ss r = 0
  · have b0 : (chartC ss r != 0) = false := by simp [hz]
    have HZ := hid hz
    have HP := hid (of_c hz).1
    have HOK := hid (ok_of hz)
    have HIV := hid (inv_of hz)
    have hl : ss.length ≤ 24 := by have := (of_p HP.out).1; omega
    have HML := hid (of_num (of_c hz).2.1).2.1
    clear hz
    have HQ1 := hid hq1
    have HK1 := hid hk1
    have HVF := hid (Ex.specVarsB 0 vars _ w1 HLV.out HV1.out)
    clear hq1 hk1
    go_wp2_with fail
    refine HVF.out.mono ?_
    rintro e w2 ⟨rfl, hb2⟩
    have hk2 := rb_b HK1.out hb2
    have hq2 := rb_b HQ1.out hb2
    have HB2 := hid (HB1.out.trans (hb2.mono HB1.out.size))
    have HA2 := hid (HA1.out.below hb2)
    have HC2 := hid (HC1.out.below hb2)
    have HV2 := hid (HV1.out.below hb2)
    clear HVF hb2 HB1 HA1 HC1 HV1 HQ1 HK1
    by_cases hvf : vFault vars = 0
    · have b2 : (vFault vars != 0) = false := by simp [hvf]
      have HVF := hid hvf
      have H4 := hid (Ex.of_v hvf).1
      clear hvf
      have HIN := hid (specIn step 0 ((ss.length : Int) - 1) w2)
      have y3 : w2.cell? ⟨w.heap.size, 3, none⟩ = some (.slice a2 r.marks.length c2) := Ch.blk_cell hq2 3
      have yw := Ch.blk_lt hq2
      by_cases hin : 0 ≤ step ∧ step < (ss.length : Int)
      · rw [show inR step 0 ((ss.length : Int) - 1) = true from Ex.inR_iff.2 (by omega)] at HIN
        obtain ⟨k, rfl⟩ : ∃ k : Nat, step = (k : Int) := ⟨step.toNat, by omega⟩
        have hkl : k < ss.length := by omega
        obtain ⟨g, o, vc, ve, e1, hg, p0, p1, p2, p3, p4, p5, hcn, hen⟩ := HA2.out.at hkl
        cases e1
        clear p1 p2 p3 p4 p5 hcn hen
        have hkm : k < r.marks.length := by rw [HML.out]; exact hkl
        obtain ⟨gm, om, em, hgm, pm⟩ := HC2.out.marks.at hkm
        cases em
        rw [← fA_eq hkm] at pm
        have q1 : (k : Int) < (ss.length : Int) := by omega
        have q2 : (0 : Int) ≤ (k : Int) := by omega
        have q3 : (k : Int) < (r.marks.length : Int) := by omega
        have HTK : Hid (taskOn ss r (k : Int) ↔ ss[k].kind = 2 ∧ fA r k = 1) := hid (by unfold taskOn; rw [Int.toNat_natCast, PJ_eq hkl]; constructor; (intro h; exact h.2.2); (intro h; exact ⟨by omega, by omega, h.1, h.2⟩))
        clear hin
        by_cases hkd : ss[k].kind = 2
        · have b3 : (ss[k].kind != 2) = false := by simp [hkd]
          by_cases hon : fA r k = 1
          · have b4 : (fA r k != 1) = false := by simp [hon]
            have HX := hid (d_ok (vars := vars) HZ.out HVF.out (HTK.out.2 ⟨hkd, hon⟩))
            rw [Int.toNat_natCast] at HX
            clear hkd hon
            have yx := y3
            clear y3
            have HCP := hid (specCopy r _ _ _ w2 HSM.out HC2.out)
            have y0 := Ch.blk_cell hq2 0
            have y1 := Ch.blk_cell hq2 1
            have y2 := Ch.blk_cell hq2 2
            have y3 := Ch.blk_cell hq2 3
            have y4 := Ch.blk_cell hq2 4
            have yl := Ch.blk_lt hq2
            simp at y0 y1 y2 y3 y4
            go_wp2_with (first | (go_at_call 48; refine HIN.out.mono ?_; rintro e w9 ⟨rfl, hw9⟩; replace hw9 := hw9.symm; subst hw9))
            refine HCP.out.mono ?_
            rintro e w3 hT
            obtain ⟨b1, b2, b3, d1, d2, d3, rfl, l1, l2, l3, r1, r2, r3, hb3⟩ := hT
            obtain ⟨w4, e4⟩ : ∃ w4, w4 = w3.alloc (.cells #[.int .i64 r.status, .int .i64 r.now, .slice (some ⟨b1, 0, none⟩) r.vars.length d1, .slice (some ⟨b2, 0, none⟩) r.marks.length d2, .slice (some ⟨b3, 0, none⟩) r.dues.length d3] 26) := ⟨_, rfl⟩
            have hb4 : Below w3.heap.size w3 w4 := by rw [e4]; exact (Below.refl _ w3).alloc (Nat.le_refl _) _
            have lr3 := r3.lt
            have HS4 : Hid (SAt w2 w4 ⟨w3.heap.size, b2, b3, b1, d2, d3, d1⟩ (.slice (some ⟨g, o, none⟩) ss.length cap) ss (csOf r)) := hid (of_copy (wc := w3) HZ.out HA2.out (hb3.trans (hb4.mono hb3.size)) l1 l2 l3 lr3 (by rw [e4]; exact Ch.new_blk _ _) (Row.below r1 hb4) (Row.below r2 hb4) (Row.below r3 hb4))
            have hbx : Below w2.heap.size w2 w4 := hb3.trans (hb4.mono hb3.size)
            have hk4 := rb_b hk2 hbx
            have HB4 := hid (HB2.out.trans (hbx.mono HB2.out.size))
            have lW : (w.heap.size + 1) < w2.heap.size := Ch.blk_lt hk2
            have E4 := hid e4
            clear hb3 hb4 hbx e4 r1 r2 r3 y0 y1 y2 y3 y4 yl l1 l2 l3 lr3 HCP
            have HV4 := hid (HV2.out.below (SAt.bel HS4.out))
            have HLI := hid (specInts 0 vars _ w4 HLV.out HV4.out)
            have HK4 := hid hk4
            clear hk4 hq2 hk2
            go_wp2_with fail
            rw [← E4.out]
            refine HLI.out.mono ?_
            rintro e w5 ⟨⟨bv, dv, rfl, hlv, hrv⟩, hb5⟩
            have hS5 := HS4.out.below hb5
            have hk5 := rb_b HK4.out hb5
            have y2 := Ch.blk_cell hS5.blk 2
            have t2 := Ch.blk_free hS5.blk 2
            have yl := Ch.blk_lt hS5.blk
            dsimp only at y2 t2 yl
            simp at y2
            obtain ⟨w7, e7⟩ : ∃ w7, w7 = w5.setCell ⟨w3.heap.size, 2, none⟩ (.slice (some ⟨bv, 0, none⟩) vars.length dv) := ⟨_, rfl⟩
            have hlt4 := Ch.blk_lt HS4.out.blk
            have HSX : Hid (SAt w2 w7 ⟨w3.heap.size, b2, b3, bv, d2, d3, dv⟩ (.slice (some ⟨g, o, none⟩) ss.length cap) ss { csOf r with vars := vars }) := hid (by rw [e7]; exact SAt.newV hS5 H4.out (by have hx := SAt.lts HS4.out; show w3.heap.size < bv ∧ b2 < bv ∧ b3 < bv ∧ b1 < bv; dsimp only at hx; omega) hrv)
            have HKX : Hid (w7.heap[(w.heap.size + 1)]? = some (.cells #[.int .i64 0, .int .i64 0, .int .i64 0, .slice none 0 0, .slice none 0 0, .slice none 0 0] 28)) := hid (by rw [e7]; exact (Below.heap_setCell _ _ _ _ (by have := HS4.out.oR; dsimp only at this ⊢; omega)).trans hk5)
            have HBX : Hid (Below w.heap.size w w7) := hid (by rw [e7]; exact (HB4.out.trans (hb5.mono HB4.out.size)).setCell (p := ⟨w3.heap.size, 2, none⟩) (by have := HS4.out.oR; dsimp only at this ⊢; omega) _)
            have HOV := hid ((specGo w2 ⟨w3.heap.size, b2, b3, bv, d2, d3, dv⟩ (.slice (some ⟨g, o, none⟩) ss.length cap) ss HP.out FU).2 k { csOf r with vars := vars } w7 hkl (fuelO HP.out hkl) ⟨HVF.out, HOK.out.lo, HOK.out.hi⟩ HSX.out)
            have E7 := hid e7
            clear hS5 hb5 hrv e7 hlt4 hk5 pm p0
            go_wp2_with fail
            rw [← E7.out]
            refine HOV.out.mono ?_
            rintro e w6 hT
            obtain rfl := hT.1
            have HU := hid hT
            clear hT E4 E7 y2 t2 yl yx
            have hk6 := ride_b HU.out.2.2 HSX.out lW HKX.out
            have HB6 := hid (ride_below HU.out.2.2 HSX.out HBX.out (by omega))
            have HS6 := hid HU.out.2.1
            have y0 := HS6.out.c0
            have y1 := HS6.out.c1
            have y2 := HS6.out.c2
            have y3 := HS6.out.c3
            have y4 := HS6.out.c4
            have yl := Ch.blk_lt HS6.out.blk
            have f0 := Ch.blk_free hk6 0
            have f1 := Ch.blk_free hk6 1
            have f2 := Ch.blk_free hk6 2
            have f3 := Ch.blk_free hk6 3
            have f4 := Ch.blk_free hk6 4
            have f5 := Ch.blk_free hk6 5
            have g0 : w6.cell? ⟨(w.heap.size + 1), 0, none⟩ = some (.int .i64 0) := Ch.blk_cell hk6 0
            have g1 : w6.cell? ⟨(w.heap.size + 1), 1, none⟩ = some (.int .i64 0) := Ch.blk_cell hk6 1
            have g2 : w6.cell? ⟨(w.heap.size + 1), 2, none⟩ = some (.int .i64 0) := Ch.blk_cell hk6 2
            have g3 : w6.cell? ⟨(w.heap.size + 1), 3, none⟩ = some (.slice none 0 0) := Ch.blk_cell hk6 3
            have g4 : w6.cell? ⟨(w.heap.size + 1), 4, none⟩ = some (.slice none 0 0) := Ch.blk_cell hk6 4
            have g5 : w6.cell? ⟨(w.heap.size + 1), 5, none⟩ = some (.slice none 0 0) := Ch.blk_cell hk6 5
            have gl := Ch.blk_lt hk6
            dsimp only at y0 y1 y2 y3 y4 yl
            generalize go ss FU true k { csOf r with vars := vars } = sf at *
            go_wp2
            refine bodyPost_ret (results_cell_row Tryz.results20 _ _ (w.heap.size + 1) 28 #[.int .i64 0, .int .i64 sf.status, .int .i64 sf.now, .slice (some ⟨bv, 0, none⟩) 4 dv, .slice (some ⟨b2, 0, none⟩) ss.length d2, .slice (some ⟨b3, 0, none⟩) ss.length d3] (0, 0) _ rfl (set6 hk6 _ _ _ _ _ _) Tryz.underlying28 rfl info6) rfl ?_
            exact SPost.good HX.out HS6.out HB6.out (by omega) lW _ _ _ _ _ _
          · have HX := hid (d_none (vars := vars) HZ.out HVF.out (fun h => hon (HTK.out.1 h).2))
            have b4 : (fA r k != 1) = true := bne_iff_ne.2 hon
            generalize doneC ss r (k : Int) vars = tc at *
            generalize doneR ss r (k : Int) vars = tr at *
            have HBD := hid (specBad (4) w2)
            go_wp2_with (first | (go_at_call 48; refine HIN.out.mono ?_; rintro e w9 ⟨rfl, hw9⟩; replace hw9 := hw9.symm; subst hw9))
            refine HBD.out.mono ?_
            rintro e wz ⟨rfl, hbz⟩
            have hkz := rb_b hk2 hbz
            have HBZ := hid (HB2.out.trans (hbz.mono HB2.out.size))
            have f0 := Ch.blk_free hkz 0
            have f1 := Ch.blk_free hkz 1
            have f2 := Ch.blk_free hkz 2
            have f3 := Ch.blk_free hkz 3
            have f4 := Ch.blk_free hkz 4
            have f5 := Ch.blk_free hkz 5
            have g0 : wz.cell? ⟨(w.heap.size + 1), 0, none⟩ = some (.int .i64 0) := Ch.blk_cell hkz 0
            have g1 : wz.cell? ⟨(w.heap.size + 1), 1, none⟩ = some (.int .i64 0) := Ch.blk_cell hkz 1
            have g2 : wz.cell? ⟨(w.heap.size + 1), 2, none⟩ = some (.int .i64 0) := Ch.blk_cell hkz 2
            have g3 : wz.cell? ⟨(w.heap.size + 1), 3, none⟩ = some (.slice none 0 0) := Ch.blk_cell hkz 3
            have g4 : wz.cell? ⟨(w.heap.size + 1), 4, none⟩ = some (.slice none 0 0) := Ch.blk_cell hkz 4
            have g5 : wz.cell? ⟨(w.heap.size + 1), 5, none⟩ = some (.slice none 0 0) := Ch.blk_cell hkz 5
            have gl := Ch.blk_lt hkz
            clear hbz
            go_wp2
            refine bodyPost_ret (results_cell_row Tryz.results20 _ _ (w.heap.size + 1) 28 #[.int .i64 (4), .int .i64 0, .int .i64 0, .slice none 0 0, .slice none 0 0, .slice none 0 0] (0, 0) _ rfl (set6 hkz _ _ _ _ _ _) Tryz.underlying28 rfl info6) rfl ?_
            exact SPost.bad HX.out HBZ.out (by omega) _ _ _ _ _ _
        · have HX := hid (d_none (vars := vars) HZ.out HVF.out (fun h => hkd (HTK.out.1 h).1))
          have b3 : (ss[k].kind != 2) = true := bne_iff_ne.2 hkd
          generalize doneC ss r (k : Int) vars = tc at *
          generalize doneR ss r (k : Int) vars = tr at *
          have HBD := hid (specBad (4) w2)
          go_wp2_with (first | (go_at_call 48; refine HIN.out.mono ?_; rintro e w9 ⟨rfl, hw9⟩; replace hw9 := hw9.symm; subst hw9))
          refine HBD.out.mono ?_
          rintro e wz ⟨rfl, hbz⟩
          have hkz := rb_b hk2 hbz
          have HBZ := hid (HB2.out.trans (hbz.mono HB2.out.size))
          have f0 := Ch.blk_free hkz 0
          have f1 := Ch.blk_free hkz 1
          have f2 := Ch.blk_free hkz 2
          have f3 := Ch.blk_free hkz 3
          have f4 := Ch.blk_free hkz 4
          have f5 := Ch.blk_free hkz 5
          have g0 : wz.cell? ⟨(w.heap.size + 1), 0, none⟩ = some (.int .i64 0) := Ch.blk_cell hkz 0
          have g1 : wz.cell? ⟨(w.heap.size + 1), 1, none⟩ = some (.int .i64 0) := Ch.blk_cell hkz 1
          have g2 : wz.cell? ⟨(w.heap.size + 1), 2, none⟩ = some (.int .i64 0) := Ch.blk_cell hkz 2
          have g3 : wz.cell? ⟨(w.heap.size + 1), 3, none⟩ = some (.slice none 0 0) := Ch.blk_cell hkz 3
          have g4 : wz.cell? ⟨(w.heap.size + 1), 4, none⟩ = some (.slice none 0 0) := Ch.blk_cell hkz 4
          have g5 : wz.cell? ⟨(w.heap.size + 1), 5, none⟩ = some (.slice none 0 0) := Ch.blk_cell hkz 5
          have gl := Ch.blk_lt hkz
          clear hbz
          go_wp2
          refine bodyPost_ret (results_cell_row Tryz.results20 _ _ (w.heap.size + 1) 28 #[.int .i64 (4), .int .i64 0, .int .i64 0, .slice none 0 0, .slice none 0 0, .slice none 0 0] (0, 0) _ rfl (set6 hkz _ _ _ _ _ _) Tryz.underlying28 rfl info6) rfl ?_
          exact SPost.bad HX.out HBZ.out (by omega) _ _ _ _ _ _
      · have HX := hid (d_none (vars := vars) HZ.out HVF.out (fun h => hin ⟨h.1, h.2.1⟩))
        rw [show inR step 0 ((ss.length : Int) - 1) = false from Ex.inR_not.2 (by omega)] at HIN
        generalize doneC ss r step vars = tc at *
        generalize doneR ss r step vars = tr at *
        have HBD := hid (specBad (4) w2)
        go_wp2_with (first | (go_at_call 48; refine HIN.out.mono ?_; rintro e w9 ⟨rfl, hw9⟩; replace hw9 := hw9.symm; subst hw9))
        refine HBD.out.mono ?_
        rintro e wz ⟨rfl, hbz⟩
        have hkz := rb_b hk2 hbz
        have HBZ := hid (HB2.out.trans (hbz.mono HB2.out.size))
        have f0 := Ch.blk_free hkz 0
        have f1 := Ch.blk_free hkz 1
        have f2 := Ch.blk_free hkz 2
        have f3 := Ch.blk_free hkz 3
        have f4 := Ch.blk_free hkz 4
        have f5 := Ch.blk_free hkz 5
        have g0 : wz.cell? ⟨(w.heap.size + 1), 0, none⟩ = some (.int .i64 0) := Ch.blk_cell hkz 0
        have g1 : wz.cell? ⟨(w.heap.size + 1), 1, none⟩ = some (.int .i64 0) := Ch.blk_cell hkz 1
        have g2 : wz.cell? ⟨(w.heap.size + 1), 2, none⟩ = some (.int .i64 0) := Ch.blk_cell hkz 2
        have g3 : wz.cell? ⟨(w.heap.size + 1), 3, none⟩ = some (.slice none 0 0) := Ch.blk_cell hkz 3
        have g4 : wz.cell? ⟨(w.heap.size + 1), 4, none⟩ = some (.slice none 0 0) := Ch.blk_cell hkz 4
        have g5 : wz.cell? ⟨(w.heap.size + 1), 5, none⟩ = some (.slice none 0 0) := Ch.blk_cell hkz 5
        have gl := Ch.blk_lt hkz
        clear hbz
        go_wp2
        refine bodyPost_ret (results_cell_row Tryz.results20 _ _ (w.heap.size + 1) 28 #[.int .i64 (4), .int .i64 0, .int .i64 0, .slice none 0 0, .slice none 0 0, .slice none 0 0] (0, 0) _ rfl (set6 hkz _ _ _ _ _ _) Tryz.underlying28 rfl info6) rfl ?_
        exact SPost.bad HX.out HBZ.out (by omega) _ _ _ _ _ _
    · have b2 : (vFault vars != 0) = true := bne_iff_ne.2 hvf
      have HX := hid (d_vars (step := step) HZ.out hvf)
      clear hvf
      generalize doneC ss r step vars = tc at *
      generalize doneR ss r step vars = tr at *
      generalize vFault vars = vf at *
      have HBD := hid (specBad (vf) w2)
      go_wp2_with fail
      refine HBD.out.mono ?_
      rintro e wz ⟨rfl, hbz⟩
      have hkz := rb_b hk2 hbz
      have HBZ := hid (HB2.out.trans (hbz.mono HB2.out.size))
      have f0 := Ch.blk_free hkz 0
      have f1 := Ch.blk_free hkz 1
      have f2 := Ch.blk_free hkz 2
      have f3 := Ch.blk_free hkz 3
      have f4 := Ch.blk_free hkz 4
      have f5 := Ch.blk_free hkz 5
      have g0 : wz.cell? ⟨(w.heap.size + 1), 0, none⟩ = some (.int .i64 0) := Ch.blk_cell hkz 0
      have g1 : wz.cell? ⟨(w.heap.size + 1), 1, none⟩ = some (.int .i64 0) := Ch.blk_cell hkz 1
      have g2 : wz.cell? ⟨(w.heap.size + 1), 2, none⟩ = some (.int .i64 0) := Ch.blk_cell hkz 2
      have g3 : wz.cell? ⟨(w.heap.size + 1), 3, none⟩ = some (.slice none 0 0) := Ch.blk_cell hkz 3
      have g4 : wz.cell? ⟨(w.heap.size + 1), 4, none⟩ = some (.slice none 0 0) := Ch.blk_cell hkz 4
      have g5 : wz.cell? ⟨(w.heap.size + 1), 5, none⟩ = some (.slice none 0 0) := Ch.blk_cell hkz 5
      have gl := Ch.blk_lt hkz
      clear hbz
      go_wp2
      refine bodyPost_ret (results_cell_row Tryz.results20 _ _ (w.heap.size + 1) 28 #[.int .i64 (vf), .int .i64 0, .int .i64 0, .slice none 0 0, .slice none 0 0, .slice none 0 0] (0, 0) _ rfl (set6 hkz _ _ _ _ _ _) Tryz.underlying28 rfl info6) rfl ?_
      exact SPost.bad HX.out HBZ.out (by omega) _ _ _ _ _ _
  · have b0 : (chartC ss r != 0) = true := bne_iff_ne.2 hz
    have HX := hid (d_chart (step := step) (vars := vars) hz)
    clear hz
    generalize doneC ss r step vars = tc at *
    generalize doneR ss r step vars = tr at *
    generalize chartC ss r = pf at *
    have HBD := hid (specBad (pf) w1)
    go_wp2_with fail
    refine HBD.out.mono ?_
    rintro e wz ⟨rfl, hbz⟩
    have hkz := rb_b hk1 hbz
    have HBZ := hid (HB1.out.trans (hbz.mono HB1.out.size))
    have f0 := Ch.blk_free hkz 0
    have f1 := Ch.blk_free hkz 1
    have f2 := Ch.blk_free hkz 2
    have f3 := Ch.blk_free hkz 3
    have f4 := Ch.blk_free hkz 4
    have f5 := Ch.blk_free hkz 5
    have g0 : wz.cell? ⟨(w.heap.size + 1), 0, none⟩ = some (.int .i64 0) := Ch.blk_cell hkz 0
    have g1 : wz.cell? ⟨(w.heap.size + 1), 1, none⟩ = some (.int .i64 0) := Ch.blk_cell hkz 1
    have g2 : wz.cell? ⟨(w.heap.size + 1), 2, none⟩ = some (.int .i64 0) := Ch.blk_cell hkz 2
    have g3 : wz.cell? ⟨(w.heap.size + 1), 3, none⟩ = some (.slice none 0 0) := Ch.blk_cell hkz 3
    have g4 : wz.cell? ⟨(w.heap.size + 1), 4, none⟩ = some (.slice none 0 0) := Ch.blk_cell hkz 4
    have g5 : wz.cell? ⟨(w.heap.size + 1), 5, none⟩ = some (.slice none 0 0) := Ch.blk_cell hkz 5
    have gl := Ch.blk_lt hkz
    clear hbz
    go_wp2
    refine bodyPost_ret (results_cell_row Tryz.results20 _ _ (w.heap.size + 1) 28 #[.int .i64 (pf), .int .i64 0, .int .i64 0, .slice none 0 0, .slice none 0 0, .slice none 0 0] (0, 0) _ rfl (set6 hkz _ _ _ _ _ _) Tryz.underlying28 rfl info6) rfl ?_
    exact SPost.bad HX.out HBZ.out (by omega) _ _ _ _ _ _
end Kw
end Go.Proofs.YtpgbjpfpgbjbeaaGreatDoor
