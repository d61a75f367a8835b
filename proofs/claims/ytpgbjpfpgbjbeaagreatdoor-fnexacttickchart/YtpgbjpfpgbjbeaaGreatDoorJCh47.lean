/- Laid together: KvE, KvQ, KwB, KwC. -/
import Derived.Test.YtpgbjpfpgbjbeaaGreatDoorJCh46
import Derived.Deep.LoopGhost
import Derived.Test.YtpgbjpfpgbjbeaaGreatDoorJCh44
import Derived.Test.YtpgbjpfpgbjbeaaGreatDoorJCh39
import Derived.Test.YtpgbjpfpgbjbeaaGreatDoorJCh41
import Derived.BigQuiet
/- TickChart of the program. Condition: the table of rules lies as its initialiser lays it. -/
namespace Go.Proofs.YtpgbjpfpgbjbeaaGreatDoor
open Go.RowKit Go.Deep
set_option linter.unusedVariables false
set_option linter.unusedSimpArgs false
namespace Kv
open Ex (inR evalCode evalVal vFault hid)
open St (StepD)
open Ch (RunD)
open Pf
open Kc (CS upd zer endOf stopped idle kid go mE mO Ok KAt Rides kval PBlk isOn chartC csOf fA fD ints CPost courseOf of_c kcs_new cs0)
open Ku (UPost goU entering)
theorem outN_no : outN none = 0 := rfl
theorem hasN_no : hasN none = false := rfl
theorem outN_so (k : Nat) : outN (some k) = (k : Int) := rfl
theorem hasN_so (k : Nat) : hasN (some k) = true := rfl
theorem kval_now {u : Value} {s : CS} (x : Int) {j : Nat} (hj : j < 55) : kval u { s with now := x } j = if 2 = j then .int .i64 x else kval u s j := by
  unfold kval
  by_cases e : 2 = j
  · subst e; simp
  · rw [if_neg e]
    have : ¬ j = 2 := fun h => e h.symm
    simp [this]
theorem KAt.setN {wg w : World} {R : Nat} {u : Value} {ss : List StepD} {s : CS} (h : KAt wg w R u ss s) (x : Int) : KAt wg (w.setCell ⟨R, 2, none⟩ (.int .i64 x)) R u ss { s with now := x } :=
  h.put (by omega) (fun j hj => kval_now x hj) h.len h.pad
theorem nextDueK (wg w : World) (R : Nat) (u : Value) (ss : List StepD) (s : CS) (now : Int) (hl : ss.length ≤ 24) (hn : s.now = now) (h : KAt wg w R u ss s) :
    Calls Tryz.prog 56 #[.slice (some ⟨R, 31, none⟩) 24 24, .int .i64 now] w fun e w' => e = .returned (.tuple #[.int .i64 (outN (firstD s.now s.dues ss.length)), .bool (hasN (firstD s.now s.dues ss.length))]) ∧ w' = w := by
  subst hn
  have e : firstD s.now s.dues 24 = firstD s.now s.dues ss.length := by
    have := first_pad (now := s.now) (d := s.dues) (n := ss.length) (fun i hi => (h.pad i hi).2) (24 - ss.length)
    rw [← this, show ss.length + (24 - ss.length) = 24 by omega]
  have := nextDueU w R s.dues s.now (fun i hi => h.cD hi)
  rw [e] at this
  exact this
set_option maxRecDepth 100000 in
set_option maxHeartbeats 16000000 in
theorem implTick (ss : List StepD) (r : RunD) (now : Int) (v v1 v2 v3 : Value) (w : World) (hsm : St.Small 1048576 ss) (hs : Ch.Small 1048576 r) (ha : St.At w 0 v ss) (hc : Ch.At w 0 v1 v2 v3 r) (hr : Rul w) :
    Calls Tryz.prog 26 #[v, .agg #[.int .i64 r.status, .int .i64 r.now, v1, v2, v3], .int .i64 now] w (IPost (tickK ss r now) (tickR ss r now) w) := by
  obtain ⟨a, cap, rfl⟩ := ha.slice
  obtain ⟨a1, c1, rfl⟩ := hc.vars.slice
  obtain ⟨a2, c2, rfl⟩ := hc.marks.slice
  obtain ⟨a3, c3, rfl⟩ := hc.dues.slice
  obtain ⟨w0, e0⟩ : ∃ w0, w0 = (w.alloc (.cells #[.int .i64 r.status, .int .i64 r.now, .slice a1 r.vars.length c1, .slice a2 r.marks.length c2, .slice a3 r.dues.length c3] 26)).alloc (.cells #[.int .i64 0, .int .i64 0, .int .i64 0, .slice none 0 0, .slice none 0 0, .slice none 0 0] 28) := ⟨_, rfl⟩
  have hb0 : Below w.heap.size w w0 := by rw [e0]; exact ((Below.refl _ w).alloc (Nat.le_refl _) _).alloc (by simp) _
  have hk0 : w0.heap[(w.heap.size + 1)]? = some (.cells #[.int .i64 0, .int .i64 0, .int .i64 0, .slice none 0 0, .slice none 0 0, .slice none 0 0] 28) := by rw [e0]; exact Ch.new_at (by simp) _
  have hw0 : w.heap.size + 1 < w0.heap.size := Ch.blk_lt hk0
  have HF := hid (courseOf ss r _ _ _ _ w0 hsm hs (ha.below hb0) (hc.below hb0) (hr.below hb0 hr.lt))
  have HB0 := hid hb0
  clear ha hc hsm hr hb0 hs
  go_enter Tryz.func26, Tryz.ntmps26
  go_wp2_with fail
  rw [← e0]
  clear e0
  refine HF.out.mono ?_
  rintro e w1 ⟨h1, hb1⟩
  have hk1 := rb_below hk0 hb1
  have HB1 := hid (HB0.out.trans (hb1.mono HB0.out.size))
  clear HF HB0 hb1 hk0
  rcases h1 with ⟨hne, rfl⟩ | ⟨hz, wg, R, u, rfl, hk, hle⟩
  · have b0 : (chartC ss r != 0) = true := bne_iff_ne.2 hne
    have HX := hid (t_chart (now := now) hne)
    clear hne
    have f0 := Ch.blk_free hk1 0
    have f1 := Ch.blk_free hk1 1
    have f2 := Ch.blk_free hk1 2
    have f3 := Ch.blk_free hk1 3
    have f4 := Ch.blk_free hk1 4
    have f5 := Ch.blk_free hk1 5
    have g0 : w1.cell? ⟨(w.heap.size + 1), 0, none⟩ = some (.int .i64 0) := Ch.blk_cell hk1 0
    have g1 : w1.cell? ⟨(w.heap.size + 1), 1, none⟩ = some (.int .i64 0) := Ch.blk_cell hk1 1
    have g2 : w1.cell? ⟨(w.heap.size + 1), 2, none⟩ = some (.int .i64 0) := Ch.blk_cell hk1 2
    have g3 : w1.cell? ⟨(w.heap.size + 1), 3, none⟩ = some (.slice none 0 0) := Ch.blk_cell hk1 3
    have g4 : w1.cell? ⟨(w.heap.size + 1), 4, none⟩ = some (.slice none 0 0) := Ch.blk_cell hk1 4
    have g5 : w1.cell? ⟨(w.heap.size + 1), 5, none⟩ = some (.slice none 0 0) := Ch.blk_cell hk1 5
    have gl := Ch.blk_lt hk1
    generalize tickK ss r now = tc at *
    generalize tickR ss r now = tr at *
    generalize chartC ss r = pf at *
    go_wp2
    refine bodyPost_ret (results_cell_row Tryz.results26 _ _ (w.heap.size + 1) 28 #[.int .i64 (pf), .int .i64 0, .int .i64 0, .slice none 0 0, .slice none 0 0, .slice none 0 0] (0, 0) _ rfl (set6 hk1 _ _ _ _ _ _) Tryz.underlying28 rfl info6) rfl ?_
    exact IPost.bad HX.out HB1.out (by omega)
  · have HZ := hid hz
    have HP := hid (of_c hz).1
    have HOK := hid (ok_of hz)
    have HIV := hid (inv_of hz)
    have hl : ss.length ≤ 24 := by have := (of_p HP.out).1; omega
    have hRl := hk.lt
    have hle1 : w.heap.size + 1 < w1.heap.size := Ch.blk_lt hk1
    have hold := hk.old
    have HK := hid hk
    have HKR := hid hk1
    clear hk hk1 hz
    have c2 : w1.cell? ⟨R, 2, none⟩ = some (.int .i64 r.now) := HK.out.c2
    by_cases h1 : now < r.now
    · have HX := hid (t_now HZ.out (.inl h1))
      have hk1 := HKR.out
      have f0 := Ch.blk_free hk1 0
      have f1 := Ch.blk_free hk1 1
      have f2 := Ch.blk_free hk1 2
      have f3 := Ch.blk_free hk1 3
      have f4 := Ch.blk_free hk1 4
      have f5 := Ch.blk_free hk1 5
      have g0 : w1.cell? ⟨(w.heap.size + 1), 0, none⟩ = some (.int .i64 0) := Ch.blk_cell hk1 0
      have g1 : w1.cell? ⟨(w.heap.size + 1), 1, none⟩ = some (.int .i64 0) := Ch.blk_cell hk1 1
      have g2 : w1.cell? ⟨(w.heap.size + 1), 2, none⟩ = some (.int .i64 0) := Ch.blk_cell hk1 2
      have g3 : w1.cell? ⟨(w.heap.size + 1), 3, none⟩ = some (.slice none 0 0) := Ch.blk_cell hk1 3
      have g4 : w1.cell? ⟨(w.heap.size + 1), 4, none⟩ = some (.slice none 0 0) := Ch.blk_cell hk1 4
      have g5 : w1.cell? ⟨(w.heap.size + 1), 5, none⟩ = some (.slice none 0 0) := Ch.blk_cell hk1 5
      have gl := Ch.blk_lt hk1
      generalize tickK ss r now = tc at *
      generalize tickR ss r now = tr at *
      go_wp2
      refine bodyPost_ret (results_cell_row Tryz.results26 _ _ (w.heap.size + 1) 28 #[.int .i64 (3), .int .i64 0, .int .i64 0, .slice none 0 0, .slice none 0 0, .slice none 0 0] (0, 0) _ rfl (set6 HKR.out _ _ _ _ _ _) Tryz.underlying28 rfl info6) rfl ?_
      exact IPost.bad HX.out HB1.out (by omega)
    by_cases h2 : 1000000 < now
    · have HX := hid (t_now HZ.out (.inr h2))
      have hk1 := HKR.out
      have f0 := Ch.blk_free hk1 0
      have f1 := Ch.blk_free hk1 1
      have f2 := Ch.blk_free hk1 2
      have f3 := Ch.blk_free hk1 3
      have f4 := Ch.blk_free hk1 4
      have f5 := Ch.blk_free hk1 5
      have g0 : w1.cell? ⟨(w.heap.size + 1), 0, none⟩ = some (.int .i64 0) := Ch.blk_cell hk1 0
      have g1 : w1.cell? ⟨(w.heap.size + 1), 1, none⟩ = some (.int .i64 0) := Ch.blk_cell hk1 1
      have g2 : w1.cell? ⟨(w.heap.size + 1), 2, none⟩ = some (.int .i64 0) := Ch.blk_cell hk1 2
      have g3 : w1.cell? ⟨(w.heap.size + 1), 3, none⟩ = some (.slice none 0 0) := Ch.blk_cell hk1 3
      have g4 : w1.cell? ⟨(w.heap.size + 1), 4, none⟩ = some (.slice none 0 0) := Ch.blk_cell hk1 4
      have g5 : w1.cell? ⟨(w.heap.size + 1), 5, none⟩ = some (.slice none 0 0) := Ch.blk_cell hk1 5
      have gl := Ch.blk_lt hk1
      generalize tickK ss r now = tc at *
      generalize tickR ss r now = tr at *
      go_wp2
      refine bodyPost_ret (results_cell_row Tryz.results26 _ _ (w.heap.size + 1) 28 #[.int .i64 (3), .int .i64 0, .int .i64 0, .slice none 0 0, .slice none 0 0, .slice none 0 0] (0, 0) _ rfl (set6 HKR.out _ _ _ _ _ _) Tryz.underlying28 rfl info6) rfl ?_
      exact IPost.bad HX.out HB1.out (by omega)
    have HX := hid (t_ok (now := now) HZ.out (by omega))
    have fr := HK.out.free 2
    obtain ⟨w3, e3⟩ : ∃ w3, w3 = w1.setCell ⟨R, 2, none⟩ (.int .i64 now) := ⟨_, rfl⟩
    have HK3 : Hid (KAt wg w3 R u ss { csOf r with now := now }) := hid (by rw [e3]; exact KAt.setN HK.out now)
    have HR3 : Hid (Rides R w1 w3) := hid (by rw [e3]; exact Rides.set R _ _ _)
    have HOK3 : Hid (Ok { csOf r with now := now }) := hid ⟨HOK.out.vars, by have h0 : (0 : Int) ≤ r.now := HOK.out.lo; show (0 : Int) ≤ now; omega, by show now ≤ 1000000; omega⟩
    have HIV3 : Hid (Inv ss { csOf r with now := now }) := hid (inv_now HIV.out now)
    have HND := hid (nextDueK wg w3 R u ss { csOf r with now := now } now hl rfl HK3.out)
    obtain ⟨tgt, et⟩ : ∃ tgt, tgt = tickC ss (csOf r) now := ⟨_, rfl⟩
    rw [← et] at HX
    have HT3 : Hid (tickN ss ss.length { csOf r with now := now } = tgt) := hid (by rw [et]; rfl)
    have HC3 : Hid (cntD ({ csOf r with now := now } : CS).now ({ csOf r with now := now } : CS).dues ss.length ≤ ss.length) := hid (cnt_bound _ _ _)
    have HN3 : Hid (({ csOf r with now := now } : CS).now = now) := hid rfl
    generalize ({ csOf r with now := now } : CS) = s3 at *
    have hR3 : R < w3.heap.size := HK3.out.lt
    clear et HOK HIV HK
    go_upto_region 7 with fail
    rw [← e3]
    clear e3 c2 fr
    go_wp2_with (go_at_call 56; refine HND.out.mono ?_; rintro e w4 ⟨rfl, hw4⟩; replace hw4 := hw4.symm; subst hw4)
    go_loopg [9, 10] ss.length (fun g x y wx => ∃ s : CS, x = .int .i64 (outN (firstD s.now s.dues ss.length)) ∧ y = .bool (hasN (firstD s.now s.dues ss.length)) ∧ Hid (KAt wg wx R u ss s) ∧ Hid (Ok s) ∧ Hid (Inv ss s) ∧ Hid (s.now = now) ∧ Hid (cntD s.now s.dues ss.length ≤ g) ∧ Hid (tickN ss g s = tgt) ∧ Hid (Rides R w1 wx))
    case atStart => exact ⟨s3, rfl, rfl, HK3, HOK3, HIV3, HN3, HC3, HT3, HR3⟩
    case round =>
      obtain ⟨s, rfl, rfl, HKs, HOs, HIs, HNs, HCs, HTs, HRs⟩ := hrel
      have hRr : R < wr.heap.size := HKs.out.lt
      cases hf : firstD s.now s.dues ss.length with
      | none =>
        have HS : Hid (s = tgt) := hid (by rw [← HTs.out, tick_none _ hf])
        clear hf
        simp only [outN_no, hasN_no, outN_so, hasN_so]
        have HB6 := hid (HRs.out.below HB1.out (by omega))
        have HR6 := hid ((HRs.out.block _ (Ch.blk_lt HKR.out) (by omega)).trans HKR.out)
        rw [HS.out] at HKs
        go_wp2_with fail
        have HRES := hid (resultU _ wr _ _ ss _ hl HKs.out)
        have HRES := hid (resultU _ wr _ _ ss _ hl HKs.out)
        refine HRES.out.mono ?_
        rintro e wz hT
        obtain ⟨v1, v2, v3, rfl, ho, hbz⟩ := hT
        have hkz := rb_below HR6.out hbz
        have f0 := Ch.blk_free hkz 0
        have f1 := Ch.blk_free hkz 1
        have f2 := Ch.blk_free hkz 2
        have f3 := Ch.blk_free hkz 3
        have f4 := Ch.blk_free hkz 4
        have f5 := Ch.blk_free hkz 5
        have g0 : wz.cell? ⟨(w.heap.size + 1), 0, none⟩ = some (.int .i64 0) := Ch.blk_cell hkz 0
        have g1 : wz.cell? ⟨(w.heap.size + 1), 1, none⟩ = some (.int .i64 0) := Ch.blk_cell hkz 1
        have g2 : wz.cell? ⟨(w.heap.size + 1), 2, none⟩ = some (.int .i64 0) := Ch.blk_cell hkz 2
        have g3 : wz.cell? ⟨(w.heap.size + 1), 3, none⟩ = some (.slice none 0 0) := Ch.blk_cell hkz 3
        have g4 : wz.cell? ⟨(w.heap.size + 1), 4, none⟩ = some (.slice none 0 0) := Ch.blk_cell hkz 4
        have g5 : wz.cell? ⟨(w.heap.size + 1), 5, none⟩ = some (.slice none 0 0) := Ch.blk_cell hkz 5
        have gl := Ch.blk_lt hkz
        have HOO := hid ho
        have HBZ := hid hbz
        have HKZ := hid hkz
        obtain ⟨x1, y1, rfl⟩ := Ints.owns_slice ho.vars
        obtain ⟨x2, y2, rfl⟩ := Ints.owns_slice ho.marks
        obtain ⟨x3, y3, rfl⟩ := Ints.owns_slice ho.dues
        clear ho hbz hkz
        generalize runOf ss.length tgt = rr at *
        go_wp2
        refine bodyPost_ret (results_cell_row Tryz.results26 _ _ (w.heap.size + 1) 28 #[.int .i64 0, .int .i64 rr.status, .int .i64 rr.now, .slice x1 rr.vars.length y1, .slice x2 rr.marks.length y2, .slice x3 rr.dues.length y3] (0, 0) _ rfl (set6 HKZ.out _ _ _ _ _ _) Tryz.underlying28 rfl info6) rfl ?_
        exact IPost.good HX.out HOO.out HBZ.out HB6.out (by omega) (Ch.blk_lt HR6.out) _ _ _ _ _ _
      | some k =>
        obtain ⟨m, hm, ht, hn, hcn⟩ := tick_round HP.out HCs.out hf
        have hkl := (first_in hf).1
        have hkd := HIs.out.kind k (first_in hf).2.1
        have HED := hid (endDueU wg wr R u ss s k HP.out hkl hkd HOs.out HKs.out)
        have HO2 := hid (endD_ok (ss := ss) HOs.out k)
        have HI2 := hid (endD_inv HIs.out k)
        have HN2 : Hid ((endD ss s k).now = now) := hid (hn.trans HNs.out)
        have HC2 := hid hcn
        have HT2 : Hid (tickN ss m (endD ss s k) = tgt) := hid (by rw [← ht]; exact HTs.out)
        clear hf hkd ht hn hcn
        simp only [outN_no, hasN_no, outN_so, hasN_so]
        generalize endD ss s k = s2 at *
        go_wp2_with (go_at_call 57; refine HED.out.mono ?_; rintro e w5 hT; obtain rfl := hT.1; have HU := hid hT; clear hT)
        have HND2 := hid (nextDueK wg w5 R u ss s2 now hl HN2.out HU.out.2.1)
        have hR5 : R < w5.heap.size := HU.out.2.1.lt
        have HR2 := hid (HRs.out.trans HU.out.2.2)
        have HKN := hid HU.out.2.1
        go_wp2_with (go_at_call 56; refine HND2.out.mono ?_; rintro e w6 ⟨rfl, hw6⟩; replace hw6 := hw6.symm; subst hw6)
        go_roundg m
        case measure => omega
        case rel => exact ⟨s2, rfl, rfl, HKN, HO2, HI2, HN2, HC2, HT2, HR2⟩
end Kv
end Go.Proofs.YtpgbjpfpgbjbeaaGreatDoor
/- What chapter 9 answers is small. -/
namespace Go.Proofs.YtpgbjpfpgbjbeaaGreatDoor
set_option linter.unusedVariables false
namespace Kv
open Ex (inR evalCode evalVal vFault)
open St (StepD)
open Ch (RunD)
open Pf
open Kc
def SmallR (r : RunD) : Prop := r.vars.length ≤ 1048576 ∧ r.marks.length ≤ 1048576 ∧ r.dues.length ≤ 1048576
theorem zero_small : SmallR zeroR := ⟨by simp [zeroR], by simp [zeroR], by simp [zeroR]⟩
theorem run_small {ss : List StepD} {s : CS} (hp : pFault ss = 0) (h : Ok s) : SmallR (runOf ss.length s) := by
  have h4 := (Ex.of_v h.vars).1
  have hl : ss.length ≤ 24 := by have := (of_p hp).1; omega
  refine ⟨?_, ?_, ?_⟩
  · show s.vars.length ≤ 1048576; omega
  · simp [runOf]; omega
  · simp [runOf]; omega
theorem tickN_ok {ss : List StepD} : ∀ (m : Nat) (s : CS), Ok s → Ok (tickN ss m s)
  | 0, s, h => h
  | m + 1, s, h => by
    rw [tickN]
    split
    · exact h
    · exact tickN_ok m _ (endD_ok h _)
theorem start_small {ss : List StepD} {vars : List Int} {now : Int} : SmallR (startR ss vars now) := by
  by_cases h : pFault ss = 0
  · by_cases h2 : vFault vars = 0
    · cases h3 : inR now 0 1000000
      · rw [(s_now h h2 h3).2]; exact zero_small
      · rw [(s_ok h h2 h3).2]
        exact run_small h (go_ok ss _ _ _ _ ⟨h2, (Ex.inR_iff.1 h3).1, (Ex.inR_iff.1 h3).2⟩)
    · rw [(s_vars h h2).2]; exact zero_small
  · rw [(s_proc h).2]; exact zero_small
theorem done_small {ss : List StepD} {r : RunD} {step : Int} {vars : List Int} : SmallR (doneR ss r step vars) := by
  by_cases h : chartC ss r = 0
  · by_cases h2 : vFault vars = 0
    · by_cases h3 : taskOn ss r step
      · rw [(d_ok h h2 h3).2]
        exact run_small (of_c h).1 (go_ok ss _ _ _ _ ⟨h2, (ok_of h).lo, (ok_of h).hi⟩)
      · rw [(d_none h h2 h3).2]; exact zero_small
    · rw [(d_vars h h2).2]; exact zero_small
  · rw [(d_chart h).2]; exact zero_small
theorem tick_small {ss : List StepD} {r : RunD} {now : Int} : SmallR (tickR ss r now) := by
  by_cases h : chartC ss r = 0
  · by_cases h2 : now < r.now ∨ 1000000 < now
    · rw [(t_now h h2).2]; exact zero_small
    · rw [(t_ok h h2).2]
      have h0 : (0 : Int) ≤ r.now := (ok_of h).lo
      exact run_small (of_c h).1 (tickN_ok _ _ ⟨(ok_of h).vars, by show (0 : Int) ≤ now; omega, by show now ≤ 1000000; omega⟩)
  · rw [(t_chart h).2]; exact zero_small
theorem mail_small {ss : List StepD} {r : RunD} {msg : Int} : SmallR (mailR ss r msg) := by
  by_cases h : chartC ss r = 0
  · by_cases h2 : msg < 0 ∨ 9 < msg
    · rw [(m_msg h h2).2]; exact zero_small
    · cases h3 : waitF ss (csOf r) msg ss.length 0 with
      | none => rw [(m_none h h2 h3).2]; exact zero_small
      | some k =>
        rw [(m_ok h h2 h3).2]
        exact run_small (of_c h).1 (go_ok ss _ _ _ _ (ok_of h))
  · rw [(m_chart h).2]; exact zero_small
end Kv
end Go.Proofs.YtpgbjpfpgbjbeaaGreatDoor
/- The specification's next due, and time going on. -/
namespace Go.Proofs.YtpgbjpfpgbjbeaaGreatDoor
open Go.RowKit Go.Deep
set_option linter.unusedVariables false
set_option linter.unusedSimpArgs false
namespace Kw
open Ex (inR evalCode evalVal vFault hid)
open St (StepD)
open Pf
open Kc (CS upd zer endOf stopped idle kid go mE mO Ok kid_mem kid_lt kid_in)
open Kt (Row Pos SAt Ride TPost optI specGo specIdle)
open Kv
theorem gs0 {now : Int} {d : Nat → Int} {k : Nat} (h : ¬ (d k ≠ 0 ∧ d k ≤ now)) : firstD now d (k + 1) = firstD now d k := by
  rw [firstD]
  cases firstD now d k with
  | none => dsimp only; rw [if_neg h]
  | some b => dsimp only; rw [if_neg (fun h2 => h ⟨h2.1, h2.2.1⟩)]
set_option maxRecDepth 100000 in
set_option maxHeartbeats 16000000 in
theorem specDue (wg w : World) (P : Pos) (v : Value) (ss : List StepD) (s : CS) (hl : ss.length ≤ 24) (h : SAt wg w P v ss s) :
    Calls Tryz.prog 85 #[.pointer (some ⟨P.R, 0, none⟩)] w fun e w' => e = .returned (.int .i64 (optI (firstD s.now s.dues ss.length))) ∧ Below w.heap.size w w' := by
  have HS := hid h
  obtain ⟨F, eF⟩ : ∃ F, F = firstD s.now s.dues := ⟨_, rfl⟩
  rw [← eF]
  have HF := hid eF
  clear h eF
  go_enter Tryz.func85, Tryz.ntmps85
  go_wp2
  go_loopw [3, 4] (fun b i wr => ∃ k : Nat, i = .int .i64 k ∧ k ≤ ss.length ∧ b = .int .i64 (optI (F k)) ∧ Hid (Below w.heap.size w wr)) (fun _ i _ => ss.length - (intOf i).toNat)
  case atStart => exact ⟨0, rfl, Nat.zero_le _, by rw [HF.out]; rfl, hid (Below.refl _ _)⟩
  case round =>
    obtain ⟨k, rfl, hk, rfl, HBW⟩ := hrel
    have hS := HS.out.below HBW.out
    have m4 := hS.c4
    have m1 := hS.c1
    have lR := Ch.blk_lt hS.blk
    have lD := hS.rd.lt
    by_cases hlt : k < ss.length
    · have c1 := hS.rd.cell hlt
      have q1 : (k : Int) < (ss.length : Int) := by omega
      have q1' : decide ((k : Int) < (ss.length : Int)) = true := decide_eq_true q1
      have q0 : (0 : Int) ≤ (k : Int) := by omega
      have S0 : Hid (¬ (s.dues k ≠ 0 ∧ s.dues k ≤ s.now) → F (k + 1) = F k) := hid (fun h => by rw [HF.out]; exact gs0 h)
      have S1 : Hid (s.dues k ≠ 0 ∧ s.dues k ≤ s.now → F k = none → F (k + 1) = some k) := hid (fun h h2 => by rw [HF.out] at h2 ⊢; rw [firstD, h2]; dsimp only; rw [if_pos h])
      have S2 : Hid (∀ b, s.dues k ≠ 0 ∧ s.dues k ≤ s.now → F k = some b → s.dues k < s.dues b → F (k + 1) = some k) := hid (fun b h h2 h3 => by rw [HF.out] at h2 ⊢; rw [firstD, h2]; dsimp only; rw [if_pos ⟨h.1, h.2, h3⟩])
      have S3 : Hid (∀ b, F k = some b → ¬ s.dues k < s.dues b → F (k + 1) = some b) := hid (fun b h2 h3 => by rw [HF.out] at h2 ⊢; rw [firstD, h2]; dsimp only; rw [if_neg (fun h => h3 h.2.2)])
      have SB : Hid (∀ b, F k = some b → b < k) := hid (fun b h => by rw [HF.out] at h; exact (first_in h).1)
      have HSR := hid hS
      clear hS
      generalize hx : s.dues k = x at *
      generalize s.now = nw at *
      clear hx
      by_cases h1 : x = 0
      · have b1 : (x != 0) = false := by simp [h1]
        have b2 : (x == 0) = true := by simp [h1]
        have HS2 := hid (S0.out (fun h => h.1 h1))
        clear h1
        generalize F k = Fo at *
        clear S0 S1 S2 S3 SB HSR
        go_wp2
        go_quiet (fail)
        all_goals go_wp2
        all_goals exact ⟨⟨k + 1, by simp, by omega, by rw [HS2.out], hid (by first | exact HBW.out.drew | exact Ints.below_drewN HBW.out _ | exact HBW.out)⟩, by simp [intOf]; omega⟩
      have b1 : (x != 0) = true := bne_iff_ne.2 h1
      have b2 : (x == 0) = false := beq_eq_false_iff_ne.2 h1
      by_cases h2 : x ≤ nw
      · have t1 : decide (x ≤ nw) = true := decide_eq_true h2
        cases hf : F k with
        | none =>
          have HS2 := hid (S1.out ⟨h1, h2⟩ hf)
          clear hf h1
          simp only [optI]
          clear S0 S1 S2 S3 SB HSR
          go_wp2
          go_quiet (fail)
          all_goals go_wp2
          all_goals exact ⟨⟨k + 1, by simp, by omega, by rw [HS2.out], hid (by first | exact HBW.out.drew | exact Ints.below_drewN HBW.out _ | exact HBW.out)⟩, by simp [intOf]; omega⟩
        | some b =>
          have hb := SB.out b hf
          have c2 := HSR.out.rd.cell (i := b) (by omega)
          have r2 : (b : Int) < (ss.length : Int) := by omega
          have r3 : (0 : Int) ≤ (b : Int) := by omega
          have r4 : decide ((b : Int) < 0) = false := decide_eq_false (by omega)
          have r5 : decide ((b : Int) < (ss.length : Int)) = true := decide_eq_true r2
          simp only [optI]
          by_cases h3 : x < s.dues b
          · have t2 : decide (x < s.dues b) = true := decide_eq_true h3
            have HS2 := hid (S2.out b ⟨h1, h2⟩ hf h3)
            clear hf h1
            clear S0 S1 S2 S3 SB HSR
            go_wp2
            go_quiet (fail)
            all_goals go_wp2
            all_goals exact ⟨⟨k + 1, by simp, by omega, by rw [HS2.out], hid (by first | exact HBW.out.drew | exact Ints.below_drewN HBW.out _ | exact HBW.out)⟩, by simp [intOf]; omega⟩
          · have t2 : decide (x < s.dues b) = false := decide_eq_false h3
            have HS2 := hid (S3.out b hf h3)
            clear hf h1
            clear S0 S1 S2 S3 SB HSR
            go_wp2
            go_quiet (fail)
            all_goals go_wp2
            all_goals exact ⟨⟨k + 1, by simp, by omega, by rw [HS2.out], hid (by first | exact HBW.out.drew | exact Ints.below_drewN HBW.out _ | exact HBW.out)⟩, by simp [intOf]; omega⟩
      · have t1 : decide (x ≤ nw) = false := decide_eq_false h2
        have HS2 := hid (S0.out (fun h => h2 h.2))
        clear h1
        generalize F k = Fo at *
        clear S0 S1 S2 S3 SB HSR
        go_wp2
        go_quiet (fail)
        all_goals go_wp2
        all_goals exact ⟨⟨k + 1, by simp, by omega, by rw [HS2.out], hid (by first | exact HBW.out.drew | exact Ints.below_drewN HBW.out _ | exact HBW.out)⟩, by simp [intOf]; omega⟩
    · have q1 : ¬ (k : Int) < (ss.length : Int) := by omega
      have hkn : k = ss.length := by omega
      have HX : Hid (F k = F ss.length) := hid (by rw [hkn])
      clear hS hkn
      generalize F k = fk at *
      go_wp2
      go_ret
      exact ⟨by rw [← HX.out]; rfl, HBW.out⟩
end Kw
end Go.Proofs.YtpgbjpfpgbjbeaaGreatDoor
/- Time going on, by the specification. -/
namespace Go.Proofs.YtpgbjpfpgbjbeaaGreatDoor
open Go.RowKit Go.Deep
set_option linter.unusedVariables false
set_option linter.unusedSimpArgs false
namespace Kw
open Ex (inR evalCode evalVal vFault hid)
open St (StepD)
open Pf
open Kc (CS upd zer endOf stopped idle kid go mE mO Ok kid_mem kid_lt kid_in)
open Kt (Row Pos SAt Ride TPost optI specGo specIdle own_slice kids_at)
open Kv
theorem optI_no : optI none = -1 := rfl
theorem optI_so (k : Nat) : optI (some k) = (k : Int) := rfl
theorem k8 {ss : List StepD} {s : CS} {k : Nat} (h : ¬ (PJ ss k).kind = 6) : endD ss s k = go ss FU false (kid ss k 1) (idle ss (Kc.due s k 0) (kid ss k 0)) := by unfold endD; rw [if_neg h]
theorem k6 {ss : List StepD} {s : CS} {k : Nat} (h : (PJ ss k).kind = 6) : endD ss s k = go ss FU true k s := by unfold endD; rw [if_pos h]
set_option maxRecDepth 100000 in
set_option maxHeartbeats 16000000 in
theorem specTick (wg w : World) (P : Pos) (v : Value) (ss : List StepD) (s0 : CS) (now : Int) (hp : pFault ss = 0) (hok : Ok { s0 with now := now }) (hiv : Inv ss { s0 with now := now }) (h : SAt wg w P v ss s0) :
    Calls Tryz.prog 55 #[v, .pointer (some ⟨P.R, 0, none⟩), .int .i64 now] w (TPost wg P v ss (tickC ss s0 now) w) := by
  have hl : ss.length ≤ 24 := by have := (of_p hp).1; omega
  obtain ⟨a, cap, rfl⟩ := h.st.slice
  have c1 := h.c1
  have f1 := Ch.blk_free h.blk 1
  have hlt := Ch.blk_lt h.blk
  obtain ⟨w3, e3⟩ : ∃ w3, w3 = w.setCell ⟨P.R, 1, none⟩ (.int .i64 now) := ⟨_, rfl⟩
  have HS3 : Hid (SAt wg w3 P (.slice a ss.length cap) ss { s0 with now := now }) := hid (by rw [e3]; exact h.setN now)
  have HR3 : Hid (Ride P w w3) := hid (by rw [e3]; exact Ride.set _ _ _ _ (by simp))
  have HOK3 := hid hok
  have HIV3 := hid hiv
  obtain ⟨tgt, et⟩ : ∃ tgt, tgt = tickC ss s0 now := ⟨_, rfl⟩
  rw [← et]
  have HT3 : Hid (tickN ss ss.length { s0 with now := now } = tgt) := hid (by rw [et]; rfl)
  have HC3 : Hid (cntD ({ s0 with now := now } : CS).now ({ s0 with now := now } : CS).dues ss.length ≤ ss.length) := hid (cnt_bound _ _ _)
  have HP := hid hp
  clear h hok hiv et hp
  generalize ({ s0 with now := now } : CS) = s3 at *
  go_enter Tryz.func55, Tryz.ntmps55
  go_wp2
  rw [← e3]
  clear e3 c1 f1
  go_loopg [6, 7] ss.length (fun g _ _ wx => ∃ s : CS, Hid (SAt wg wx P (.slice a ss.length cap) ss s) ∧ Hid (Ok s) ∧ Hid (Inv ss s) ∧ Hid (cntD s.now s.dues ss.length ≤ g) ∧ Hid (tickN ss g s = tgt) ∧ Hid (Ride P w wx))
  case atStart => exact ⟨s3, HS3, HOK3, HIV3, HC3, HT3, HR3⟩
  case round =>
    obtain ⟨s, HSs, HOs, HIs, HCs, HTs, HRs⟩ := hrel
    obtain ⟨wo, ewo⟩ : ∃ wo, wo = wr := ⟨_, rfl⟩
    subst ewo
    have m0 := HSs.out.c0
    have lR := Ch.blk_lt HSs.out.blk
    by_cases hst : s.status = 1
    · have b0 : (s.status == 1) = true := by simp [hst]
      have HD := hid (specDue wg wo P _ ss s hl HSs.out)
      clear hst
      go_wp2_with fail
      refine HD.out.mono ?_
      rintro e w2 ⟨rfl, hb2⟩
      have HS2 := hid (HSs.out.below hb2)
      have HR2 := hid (HRs.out.trans (Ride.of_below hb2))
      clear hb2 HD m0 HSs HRs
      cases hf : firstD s.now s.dues ss.length with
      | none =>
        have HX : Hid (s = tgt) := hid (by rw [← HTs.out, tick_none _ hf])
        clear hf
        simp only [optI_no, optI_so]
        go_wp2
        go_end0
        exact ⟨rfl, by rw [← HX.out]; exact HS2.out, HR2.out⟩
      | some k =>
        obtain ⟨m, hm, ht, hn, hcn⟩ := tick_round HP.out HCs.out hf
        have hkl := (first_in hf).1
        have hkd := HIs.out.kind k (first_in hf).2.1
        have HO2 := hid (endD_ok (ss := ss) HOs.out k)
        have HI2 := hid (endD_inv HIs.out k)
        have HC2 := hid hcn
        have HT2 : Hid (tickN ss m (endD ss s k) = tgt) := hid (by rw [← ht]; exact HTs.out)
        have q1 : (k : Int) < (ss.length : Int) := by omega
        have q0 : ¬ (k : Int) < 0 := by omega
        obtain ⟨g, o, vc, ve, e1, hg, p0, p1, p2, p3, p4, p5, hcn', hen⟩ := HS2.out.st.at hkl
        cases e1
        have r0 := (HS2.out.bel.cell (p := ⟨g, o + k * 6, none⟩) hg).trans p0
        have hgl : g < w2.heap.size := Nat.lt_of_lt_of_le hg HS2.out.bel.size
        clear hf ht hn hcn p0 p1 p2 p3 p4 p5 hcn' hen
        simp only [optI_no, optI_so]
        by_cases h6 : ss[k].kind = 6
        · have b6 : (ss[k].kind == 6) = true := by simp [h6]
          have HE := hid (k6 (s := s) (show (PJ ss k).kind = 6 by rw [PJ_eq hkl]; exact h6))
          have HOV := hid ((specGo wg P (.slice (some ⟨g, o, none⟩) ss.length cap) ss HP.out FU).2 k s w2 hkl (fuelO HP.out hkl) HOs.out HS2.out)
          rw [← HE.out] at HOV
          clear h6 hkd HE
          generalize endD ss s k = s2 at *
          go_wp2_with (go_at_call 50; refine HOV.out.mono ?_; rintro e w5 hT; obtain rfl := hT.1; have HU := hid hT; clear hT)
          have HSN := hid HU.out.2.1
          have HRN := hid (HR2.out.trans HU.out.2.2)
          go_roundg m
          case measure => omega
          case rel => exact ⟨s2, HSN, HO2, HI2, HC2, HT2, HRN⟩
        · have b6 : (ss[k].kind == 6) = false := by simp [h6]
          have hpk : (PJ ss k).kind = 8 := by
            rcases hkd with e | e
            · rw [PJ_eq hkl] at e; exact absurd e h6
            · exact e
          have hn2 := Kc.kids_guard HP.out hkl hpk
          have HE := hid (k8 (s := s) (show ¬ (PJ ss k).kind = 6 by omega))
          have HKD := hid (specKids 0 ss _ k w2 (by omega) HS2.out.proc)
          have hm1 := (kid_mem.1 (kid_in (ss := ss) (k := k) (i := 0) (by omega))).1
          have hm2 := (kid_mem.1 (kid_in (ss := ss) (k := k) (i := 1) (by omega))).1
          have hlts := HS2.out.lts
          have HNE : Hid (∀ bk, w2.heap.size ≤ bk → bk ≠ P.R ∧ bk ≠ P.A ∧ bk ≠ P.D ∧ bk ≠ P.V) := hid (fun bk hbk => by omega)
          have i1 := Kt.kid_ix (ss := ss) (k := k) (i := 0) (by omega)
          have i2 := Kt.kid_ix (ss := ss) (k := k) (i := 1) (by omega)
          have HI1 := hid i1
          have HI2' := hid i2
          clear h6 hkd hpk i1 i2 hlts
          go_wp2_with fail
          refine HKD.out.mono ?_
          rintro e w4 ⟨⟨uu, rfl, ho⟩, hb4⟩
          obtain ⟨bk, cap', rfl, hbk, hBk, hcell⟩ := kids_at ho (by omega)
          have HS4 := hid (HS2.out.below hb4)
          have HR4 := hid (HR2.out.trans (Ride.of_below hb4))
          have m4 := HS4.out.c4
          have mD := HS4.out.rd.cell hkl
          have fD := HS4.out.rd.free k
          have lR4 := Ch.blk_lt HS4.out.blk
          have lD4 := HS4.out.rd.lt
          obtain ⟨w5, e5⟩ : ∃ w5, w5 = w4.setCell ⟨P.D, k, none⟩ (.int .i64 0) := ⟨_, rfl⟩
          have HS5 : Hid (SAt wg w5 P (.slice (some ⟨g, o, none⟩) ss.length cap) ss (Kc.due s k 0)) := hid (by rw [e5]; exact HS4.out.setD hkl 0)
          have hR5 : Ride P w4 w5 := by rw [e5]; exact Ride.set _ _ _ _ (by simp)
          have c1 := hR5.cell (wg := wg) (v := .slice (some ⟨g, o, none⟩) ss.length cap) (ss := ss) (s := s) hbk (HNE.out bk hBk) (hcell 0 (by omega))
          rw [← HI1.out] at c1
          have hbk5 : bk < w5.heap.size := Nat.lt_of_lt_of_le hbk hR5.size
          have HC5 : Hid (w5.cell? ⟨bk, 1, none⟩ = some (.int .i64 (kid ss k 1 : Int))) := hid (by rw [HI2'.out]; exact hR5.cell (wg := wg) (v := .slice (some ⟨g, o, none⟩) ss.length cap) (ss := ss) (s := s) hbk (HNE.out bk hBk) (hcell 1 (by omega)))
          have HID := hid (specIdle wg w5 P _ ss _ (kid ss k 0) HP.out hm1 HS5.out)
          have HEN := hid (fun w6 (hS6 : SAt wg w6 P (.slice (some ⟨g, o, none⟩) ss.length cap) ss (idle ss (Kc.due s k 0) (kid ss k 0))) => (specGo wg P (.slice (some ⟨g, o, none⟩) ss.length cap) ss HP.out FU).1 (kid ss k 1) _ w6 hm2 (fuelE hl _) ((HOs.out.due k 0).idle _) hS6)
          rw [← HE.out] at HEN
          have q3 : (0 : Int) < ((kidsL ss k).length : Int) := by omega
          have q4 : (1 : Int) < ((kidsL ss k).length : Int) := by omega
          have HR5 := hid (HR4.out.trans hR5)
          have hne5 := HNE.out bk hBk
          clear ho hb4 hcell hR5 HI1 HI2' HE HKD HNE hn2
          generalize endD ss s k = s2 at *
          generalize idle ss (Kc.due s k 0) (kid ss k 0) = s6 at *
          generalize kid ss k 0 = x1 at *
          generalize kid ss k 1 = x2 at *
          generalize (kidsL ss k).length = nk at *
          go_upto_region 8 with fail
          rw [← e5]
          clear e5
          go_wp2_with fail
          refine HID.out.mono ?_
          rintro e w6 hT
          obtain rfl := hT.1
          have HU := hid hT
          clear hT
          have c2 := HU.out.2.2.cell (wg := wg) (v := .slice (some ⟨g, o, none⟩) ss.length cap) (ss := ss) (s := s) hbk5 hne5 HC5.out
          have hbk6 : bk < w6.heap.size := Nat.lt_of_lt_of_le hbk5 HU.out.2.2.size
          have HE6 := hid (HEN.out w6 HU.out.2.1)
          have HR6 := hid (HR5.out.trans HU.out.2.2)
          clear HID HEN
          go_wp2_with (go_at_call 35; refine HE6.out.mono ?_; rintro e w7 hT; obtain rfl := hT.1; have HV := hid hT; clear hT)
          have HSN := hid HV.out.2.1
          have HRN := hid (HR6.out.trans HV.out.2.2)
          go_roundg m
          case measure => omega
          case rel => exact ⟨s2, HSN, HO2, HI2, HC2, HT2, HRN⟩
    · have b0 : (s.status == 1) = false := by simp [hst]
      have HX : Hid (s = tgt) := hid (by
        rcases HIs.out.live with e | e
        · exact absurd e hst
        · rw [← HTs.out, tick_none _ (first_zero e _)])
      clear hst
      go_wp2
      go_end0
      exact ⟨rfl, by rw [← HX.out]; exact HSs.out, HRs.out⟩
end Kw
end Go.Proofs.YtpgbjpfpgbjbeaaGreatDoor
