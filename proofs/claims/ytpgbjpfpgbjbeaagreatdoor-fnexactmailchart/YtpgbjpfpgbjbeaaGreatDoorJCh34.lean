/- What the specification does to a chart: it is ended; all kids over; the kid behind; the kid that is chosen. -/
import Derived.Test.YtpgbjpfpgbjbeaaGreatDoorJCh33
import Derived.Test.YtpgbjpfpgbjbeaaGreatDoorJCh30
namespace Go.Proofs.YtpgbjpfpgbjbeaaGreatDoor
open Go.RowKit Go.Deep
set_option linter.unusedVariables false
set_option linter.unusedSimpArgs false
namespace Kt
open Ex (inR evalCode evalVal vFault hid)
open St (StepD)
open Pf
open Kc (CS upd zer endOf stopped idle pick aft allOver kid go mE mO Ok kid_mem kid_lt)
def endTo (s : CS) (st : Int) (i : Nat) : CS := ⟨st, s.now, s.vars, zer s.acts 0 i, zer s.dues 0 i⟩
theorem end_step {s : CS} {st : Int} {i : Nat} : Kc.due (Kc.act (endTo s st i) i 0) i 0 = endTo s st (i + 1) := by
  have e : ∀ f : Nat → Int, upd (zer f 0 i) i 0 = zer f 0 (i + 1) := fun f => by
    funext j
    unfold upd zer
    by_cases h1 : j = i
    · rw [if_pos h1, if_pos (by omega)]
    · rw [if_neg h1]
      by_cases h2 : 0 ≤ j ∧ j < i
      · rw [if_pos h2, if_pos (by omega)]
      · rw [if_neg h2, if_neg (by omega)]
  unfold Kc.due Kc.act endTo
  simp only [e]
theorem end_zero {s : CS} {st : Int} : endTo s st 0 = { s with status := st } := by
  have e : ∀ f : Nat → Int, zer f 0 0 = f := fun f => by
    funext j
    unfold zer
    rw [if_neg (by omega)]
  unfold endTo
  rw [e, e]
set_option maxRecDepth 100000 in
set_option maxHeartbeats 8000000 in
theorem specEnd (wg w : World) (P : Pos) (v : Value) (ss : List StepD) (s : CS) (st : Int) (hl : ss.length ≤ 24) (h : SAt wg w P v ss s) :
    Calls Tryz.prog 65 #[.pointer (some ⟨P.R, 0, none⟩), .int .i64 st] w (TPost wg P v ss (stopped s st) w) := by
  have c0 := h.c0
  have f0 := Ch.blk_free h.blk 0
  obtain ⟨wS, eS⟩ : ∃ wS, wS = w.setCell ⟨P.R, 0, none⟩ (.int .i64 st) := ⟨_, rfl⟩
  have HS := hid (h.setS st)
  have HR : Hid (Ride P w wS) := hid (by rw [eS]; exact Ride.set _ _ _ _ (by simp))
  rw [← eS] at HS
  clear h
  unfold TPost
  go_enter Tryz.func65, Tryz.ntmps65
  go_wp2
  rw [← eS]
  clear eS c0 f0
  go_loopw [4] (fun x wr => ∃ i : Nat, x = .int .i64 i ∧ i ≤ ss.length ∧ Hid (SAt wg wr P v ss (endTo s st i)) ∧ Hid (Ride P wS wr)) (fun x _ => ss.length - (intOf x).toNat)
  case atStart => exact ⟨0, rfl, Nat.zero_le _, hid (by rw [end_zero]; exact HS.out), hid (Ride.refl _ _)⟩
  case round =>
    obtain ⟨i, rfl, hi, HSI, HRI⟩ := hrel
    have m3 := HSI.out.c3
    have m4 := HSI.out.c4
    by_cases hlt : i < ss.length
    · have q1 : (i : Int) < (ss.length : Int) := by omega
      have HN := hid (end_step (s := s) (st := st) (i := i))
      have mA := HSI.out.ra.cell hlt
      have fA := HSI.out.ra.free i
      have HSA := hid (HSI.out.setA hlt 0)
      have mD : (wr.setCell ⟨P.A, i, none⟩ (.int .i64 0)).cell? ⟨P.D, i, none⟩ = _ := HSA.out.rd.cell hlt
      have fD : (wr.setCell ⟨P.A, i, none⟩ (.int .i64 0)).frozen? ⟨P.D, i, none⟩ = false := HSA.out.rd.free i
      have m4' := HSA.out.c4
      have HSD := hid (HSA.out.setD hlt 0)
      rw [HN.out] at HSD
      have HRD : Hid (Ride P wr ((wr.setCell ⟨P.A, i, none⟩ (.int .i64 0)).setCell ⟨P.D, i, none⟩ (.int .i64 0))) := hid ((Ride.set _ _ _ _ (by simp)).trans (Ride.set _ _ _ _ (by simp)))
      have n1 := HSI.out.rA
      have n2 := HSI.out.aD
      clear HSA
      go_wp2
      exact ⟨⟨i + 1, by simp, by omega, HSD, hid (HRI.out.trans HRD.out)⟩, by simp [intOf]; omega⟩
    · have hie : i = ss.length := by omega
      rw [hie] at HSI
      have HST : Hid (SAt wg wr P v ss (stopped s st)) := hid (HSI.out.congr rfl rfl rfl (fun j hj => by show 0 = zer s.acts 0 ss.length j; unfold zer; rw [if_pos (by omega)]) (fun j hj => by show 0 = zer s.dues 0 ss.length j; unfold zer; rw [if_pos (by omega)]))
      have q1 : ¬ (i : Int) < (ss.length : Int) := by omega
      clear hie
      go_wp2
      go_end0
      exact ⟨rfl, HST.out, HR.out.trans HRI.out⟩
theorem all_take {s : CS} {ks : List Nat} {i : Nat} (hi : i < ks.length) : allOver s (ks.take (i + 1)) = (allOver s (ks.take i) && (s.acts ks[i] == 2)) := by
  unfold allOver
  rw [List.take_succ_eq_append_getElem hi, List.all_append]
  simp
theorem all_no {s : CS} {ks : List Nat} {i : Nat} (hi : i < ks.length) (h : s.acts ks[i] ≠ 2) : allOver s ks = false := by
  unfold allOver
  rw [List.all_eq_false]
  exact ⟨_, List.getElem_mem hi, by simp [h]⟩
set_option maxRecDepth 100000 in
set_option maxHeartbeats 8000000 in
theorem specAll (wg w : World) (P : Pos) (v : Value) (ss : List StepD) (s : CS) (k : Nat) (hl : ss.length ≤ 24) (h : SAt wg w P v ss s) :
    Calls Tryz.prog 80 #[v, .pointer (some ⟨P.R, 0, none⟩), .int .i64 (k : Int)] w fun e w' => e = .returned (.bool (allOver s (kidsL ss k))) ∧ Below w.heap.size w w' := by
  have HKD := hid (specKids 0 ss v k w (by omega) h.proc)
  obtain ⟨a, cap, rfl⟩ := h.st.slice
  have HS := hid h
  have hlen : (kidsL ss k).length ≤ 24 := by have := kidsN_le ss ss.length k; unfold kidsL; omega
  have HKM : Hid (∀ x ∈ kidsL ss k, x < ss.length) := hid (fun x hx => (kid_mem.1 hx).1)
  clear h
  generalize kidsL ss k = ks at *
  go_enter Tryz.func80, Tryz.ntmps80
  go_wp2_with fail
  refine HKD.out.mono ?_
  rintro e w1 ⟨⟨u, rfl, ho⟩, hb1⟩
  obtain ⟨au, cu, rfl⟩ := own_slice ho
  have HO := hid ho
  have HB1 := hid hb1
  clear ho hb1 HKD
  go_wp2
  go_loopw [8] (fun x wr => ∃ i : Nat, x = .int .i64 i ∧ i ≤ ks.length ∧ Hid (allOver s (ks.take i) = true) ∧ Hid (Below w1.heap.size w1 wr)) (fun x _ => ks.length - (intOf x).toNat)
  case atStart => exact ⟨0, rfl, Nat.zero_le _, hid rfl, hid (Below.refl _ _)⟩
  case round =>
    obtain ⟨i, rfl, hi, HA, HBR⟩ := hrel
    have HBW := hid (HB1.out.trans (HBR.out.mono HB1.out.size))
    by_cases hlt : i < ks.length
    · obtain ⟨bk, cap', e, hbk, _, hcell⟩ := kids_at (own_below HO.out HBR.out) (by omega)
      cases e
      have c1 := hcell i hlt
      have hS := HS.out.below HBW.out
      have hx := HKM.out _ (List.getElem_mem hlt)
      have m3 := hS.c3
      have mA := hS.ra.cell hx
      have q1 : (i : Int) < (ks.length : Int) := by omega
      have q2 : (0 : Int) ≤ (ks[i] : Int) := by omega
      have q3 : (ks[i] : Int) < (ss.length : Int) := by omega
      have HT := hid (all_take (s := s) hlt)
      have HNO := hid (all_no (s := s) hlt)
      clear hcell hS
      generalize ks[i] = x at *
      by_cases hv : s.acts x = 2
      · have b1 : (s.acts x != 2) = false := by simp [hv]
        have HX : Hid (allOver s (ks.take (i + 1)) = true) := hid (by rw [HT.out, HA.out, hv]; rfl)
        clear hv HT HNO
        go_wp2
        go_region
        go_wp2
        exact ⟨⟨i + 1, by simp, by omega, HX, hid HBR.out.drew⟩, by simp [intOf]; omega⟩
      · have b1 : (s.acts x != 2) = true := bne_iff_ne.2 hv
        have HX := hid (HNO.out hv)
        clear hv HT HNO
        go_wp2
        go_region
        go_wp2
        go_ret
        exact ⟨by rw [HX.out]; rfl, HBW.out.drew⟩
    · have HX : Hid (allOver s ks = true) := hid (by have := HA.out; rwa [List.take_of_length_le (by omega)] at this)
      have q1 : ¬ (i : Int) < (ks.length : Int) := by omega
      go_wp2
      go_ret
      exact ⟨by rw [HX.out]; rfl, HBW.out⟩
def optI : Option Nat → Int
  | some j => (j : Int)
  | none => -1
theorem aft_hit {l : List Nat} {k i : Nat} (h : i + 1 < l.length) (e : l[i]'(by omega) = k) : aft (l.drop i) k = some l[i + 1] := by
  rw [List.drop_eq_getElem_cons (by omega : i < l.length), List.drop_eq_getElem_cons h, aft, if_pos e]
theorem aft_miss {l : List Nat} {k i : Nat} (h : i + 1 < l.length) (e : l[i]'(by omega) ≠ k) : aft (l.drop i) k = aft (l.drop (i + 1)) k := by
  rw [List.drop_eq_getElem_cons (by omega : i < l.length), List.drop_eq_getElem_cons h, aft, if_neg e]
theorem aft_end {l : List Nat} {k i : Nat} (h : ¬ i + 1 < l.length) : aft (l.drop i) k = none := by
  rcases Nat.lt_or_ge i l.length with h1 | h1
  · rw [List.drop_eq_getElem_cons h1, List.drop_eq_nil_of_le (by omega)]; rfl
  · rw [List.drop_eq_nil_of_le h1]; rfl
set_option maxRecDepth 100000 in
set_option maxHeartbeats 8000000 in
theorem specAfter (ss : List StepD) (v : Value) (k p : Nat) (w : World) (hl : ss.length ≤ 24) (hk : k < ss.length) (hpar : (PJ ss k).parent = (p : Int)) (ha : St.At w 0 v ss) :
    Calls Tryz.prog 79 #[v, .int .i64 (k : Int)] w fun e w' => e = .returned (.int .i64 (optI (aft (kidsL ss p) k))) ∧ Below w.heap.size w w' := by
  have HKD := hid (specKids 0 ss v p w (by omega) ha)
  obtain ⟨a, cap, rfl⟩ := ha.slice
  obtain ⟨g, o, vc, ve, rfl, hg, p0, p1, p2, p3, p4, p5, _⟩ := ha.at hk
  rw [PJ_eq hk] at hpar
  rw [hpar] at p1
  have hlen : (kidsL ss p).length ≤ 24 := by have := kidsN_le ss ss.length p; unfold kidsL; omega
  have q0 : (k : Int) < (ss.length : Int) := by omega
  clear ha p0 p2 p3 p4 p5 hpar
  generalize kidsL ss p = ks at *
  go_enter Tryz.func79, Tryz.ntmps79
  go_wp2_with fail
  refine HKD.out.mono ?_
  rintro e w1 ⟨⟨u, rfl, ho⟩, hb1⟩
  obtain ⟨au, cu, rfl⟩ := own_slice ho
  have HO := hid ho
  have HB1 := hid hb1
  clear ho hb1 HKD p1
  go_wp2
  go_loop [6] (fun x => ∃ i : Nat, x = .int .i64 i ∧ i ≤ ks.length ∧ Hid (aft ks k = aft (ks.drop i) k)) (fun x => ks.length - (intOf x).toNat)
  case atStart => exact ⟨0, rfl, Nat.zero_le _, hid (by rw [List.drop_zero])⟩
  case round =>
    obtain ⟨i, rfl, hi, HA⟩ := hrel
    by_cases hlt : i + 1 < ks.length
    · obtain ⟨bk, cap', e, hbk, _, hcell⟩ := kids_at HO.out (by omega)
      cases e
      have c1 := hcell i (by omega)
      have c2 := hcell (i + 1) hlt
      have q1 : (i : Int) + 1 < (ks.length : Int) := by omega
      have q2 : (i : Int) < (ks.length : Int) := by omega
      have HH := hid (aft_hit (k := k) hlt)
      have HM := hid (aft_miss (k := k) hlt)
      clear hcell
      generalize ks[i] = x at *
      generalize ks[i + 1] = y at *
      by_cases hv : x = k
      · have b1 : ((x : Int) == (k : Int)) = true := by simp [hv]
        have HX : Hid (optI (aft ks k) = (y : Int)) := hid (by rw [HA.out, HH.out hv]; rfl)
        clear hv HH HM HA
        go_wp2
        go_ret
        exact ⟨by rw [HX.out]; rfl, HB1.out⟩
      · have b1 : ((x : Int) == (k : Int)) = false := beq_eq_false_iff_ne.2 (by omega)
        have HX : Hid (aft ks k = aft (ks.drop (i + 1)) k) := hid (by rw [HA.out, HM.out hv])
        clear hv HH HM HA
        go_wp2
        exact ⟨⟨i + 1, by simp, by omega, HX⟩, by simp [intOf]; omega⟩
    · have HX : Hid (optI (aft ks k) = -1) := hid (by rw [HA.out, aft_end hlt]; rfl)
      have q1 : ¬ (i : Int) + 1 < (ks.length : Int) := by omega
      go_wp2
      go_ret
      exact ⟨by rw [HX.out]; rfl, HB1.out⟩
/-- The conditions are right. -/
theorem cond_ok {ss : List StepD} {k : Nat} (hp : pFault ss = 0) (hk : k < ss.length) (h0 : (PJ ss k).cond.length ≠ 0) : Ex.typeCode (PJ ss k).cond = 0 ∧ Ex.typeVal (PJ ss k).cond = 2 := by
  have h := first_all (of_p hp).2.2.2 hk
  unfold typC at h
  have h1 : tyC (PJ ss k).cond 2 = 0 := by
    by_cases e : tyC (PJ ss k).cond 2 = 0
    · exact e
    · rw [if_pos e] at h; exact absurd h e
  by_cases ht : Ex.typeCode (PJ ss k).cond = 0
  · by_cases hv : Ex.typeVal (PJ ss k).cond = 2
    · exact ⟨ht, hv⟩
    · rw [ty_type h0 ht hv] at h1; cases h1
  · rw [ty_code h0 ht] at h1; exact absurd h1 ht
theorem expr_ok {ss : List StepD} {k : Nat} (hp : pFault ss = 0) (hk : k < ss.length) (h7 : (PJ ss k).kind = 7) : Ex.typeCode (PJ ss k).expr = 0 ∧ (PJ ss k).expr.length ≠ 0 := by
  have h5 := (of_one (first_all (of_p hp).2.1 hk)).2.2.2.2
  have hn : ¬ ((PJ ss k).kind = 2 ∧ Tr.nf (PJ ss k).name.data.toList ≠ 0) := fun h => by omega
  have hx : Ex.eFault (PJ ss k).expr = 0 := by
    cases ha : argOk (PJ ss k)
    · rw [part_arg hn ha] at h5; cases h5
    · rw [part_set hn ha h7] at h5; exact h5
  have h0 : (PJ ss k).expr.length ≠ 0 := by have := (Ex.of_e hx).1; omega
  have h := first_all (of_p hp).2.2.2 hk
  unfold typC at h
  have h1 : tyC (PJ ss k).expr 1 = 0 := by
    by_cases e : tyC (PJ ss k).cond 2 = 0
    · rw [if_neg (by simp [e])] at h; exact h
    · rw [if_pos e] at h; exact absurd h e
  refine ⟨?_, h0⟩
  by_cases ht : Ex.typeCode (PJ ss k).expr = 0
  · exact ht
  · rw [ty_code h0 ht] at h1; exact absurd h1 ht
theorem pick_none {ss : List StepD} {vars : List Int} {l : List Nat} {i : Nat} (hi : i < l.length) (h1 : (PJ ss l[i]).cond.length = 0) : pick ss vars (l.drop i) = some l[i] := by
  rw [List.drop_eq_getElem_cons hi, pick, if_pos h1]
theorem pick_bad {ss : List StepD} {vars : List Int} {l : List Nat} {i : Nat} (hi : i < l.length) (h1 : (PJ ss l[i]).cond.length ≠ 0) (h2 : evalCode (PJ ss l[i]).cond vars ≠ 0) : pick ss vars (l.drop i) = none := by
  rw [List.drop_eq_getElem_cons hi, pick, if_neg h1, if_pos h2]
theorem pick_yes {ss : List StepD} {vars : List Int} {l : List Nat} {i : Nat} (hi : i < l.length) (h1 : (PJ ss l[i]).cond.length ≠ 0) (h2 : evalCode (PJ ss l[i]).cond vars = 0) (h3 : evalVal (PJ ss l[i]).cond vars = 1) : pick ss vars (l.drop i) = some l[i] := by
  rw [List.drop_eq_getElem_cons hi, pick, if_neg h1, if_neg (by simp [h2]), if_pos h3]
theorem pick_no {ss : List StepD} {vars : List Int} {l : List Nat} {i : Nat} (hi : i < l.length) (h1 : (PJ ss l[i]).cond.length ≠ 0) (h2 : evalCode (PJ ss l[i]).cond vars = 0) (h3 : evalVal (PJ ss l[i]).cond vars ≠ 1) : pick ss vars (l.drop i) = pick ss vars (l.drop (i + 1)) := by
  rw [List.drop_eq_getElem_cons hi, pick, if_neg h1, if_neg (by simp [h2]), if_neg h3]
theorem pick_end {ss : List StepD} {vars : List Int} {l : List Nat} {i : Nat} (hi : ¬ i < l.length) : pick ss vars (l.drop i) = none := by
  rw [List.drop_eq_nil_of_le (by omega)]; rfl
set_option maxRecDepth 100000 in
set_option maxHeartbeats 16000000 in
theorem specChoose (wg w : World) (P : Pos) (v : Value) (ss : List StepD) (s : CS) (k : Nat) (hp : pFault ss = 0) (hv : vFault s.vars = 0) (h : SAt wg w P v ss s) :
    Calls Tryz.prog 64 #[v, .pointer (some ⟨P.R, 0, none⟩), .int .i64 (k : Int)] w fun e w' => e = .returned (.int .i64 (optI (pick ss s.vars (kidsL ss k)))) ∧ Below w.heap.size w w' := by
  have hl : ss.length ≤ 24 := by have := (of_p hp).1; omega
  have HKD := hid (specKids 0 ss v k w (by omega) h.proc)
  obtain ⟨a, cap, rfl⟩ := h.st.slice
  have HS := hid h
  have HP := hid hp
  have HVF := hid hv
  have hlen : (kidsL ss k).length ≤ 24 := by have := kidsN_le ss ss.length k; unfold kidsL; omega
  have HKM : Hid (∀ x ∈ kidsL ss k, x < ss.length) := hid (fun x hx => (kid_mem.1 hx).1)
  clear h hp hv
  generalize kidsL ss k = ks at *
  go_enter Tryz.func64, Tryz.ntmps64
  go_wp2_with fail
  refine HKD.out.mono ?_
  rintro e w1 ⟨⟨u, rfl, ho⟩, hb1⟩
  obtain ⟨au, cu, rfl⟩ := own_slice ho
  have HO := hid ho
  have HB1 := hid hb1
  clear ho hb1 HKD
  go_wp2
  go_loopw [8, 9, 10, 11] (fun x _ _ _ wr => ∃ i : Nat, x = .int .i64 i ∧ i ≤ ks.length ∧ Hid (pick ss s.vars ks = pick ss s.vars (ks.drop i)) ∧ Hid (Below w1.heap.size w1 wr)) (fun x _ _ _ _ => ks.length - (intOf x).toNat)
  case atStart => exact ⟨0, rfl, Nat.zero_le _, hid (by rw [List.drop_zero]), hid (Below.refl _ _)⟩
  case round =>
    obtain ⟨i, rfl, hi, HA, HBR⟩ := hrel
    have HBW := hid (HB1.out.trans (HBR.out.mono HB1.out.size))
    by_cases hlt : i < ks.length
    · obtain ⟨bk, cap', e, hbk, _, hcell⟩ := kids_at (own_below HO.out HBR.out) (by omega)
      cases e
      have c1 := hcell i hlt
      have hx := HKM.out _ (List.getElem_mem hlt)
      have hS := HS.out.below HBW.out
      obtain ⟨g, o, vc, ve, e1, hg, p0, p1, p2, p3, p4, p5, hcn, _⟩ := hS.proc.at hx
      cases e1
      obtain ⟨ac, cc, rfl⟩ := hcn.slice
      have m2 := hS.c2
      have q1 : (i : Int) < (ks.length : Int) := by omega
      have q2 : (0 : Int) ≤ (ks[i] : Int) := by omega
      have q3 : (ks[i] : Int) < (ss.length : Int) := by omega
      have HE0 := hid (pick_none (ss := ss) (vars := s.vars) hlt)
      have HE1 := hid (pick_bad (ss := ss) (vars := s.vars) hlt)
      have HE2 := hid (pick_yes (ss := ss) (vars := s.vars) hlt)
      have HE3 := hid (pick_no (ss := ss) (vars := s.vars) hlt)
      have HCO := hid (cond_ok HP.out hx)
      have HEV : Hid (∀ (h0 : ss[ks[i]].cond.length ≠ 0) (ht : Ex.typeCode ss[ks[i]].cond = 0), Calls Tryz.prog 66 #[.slice ac ss[ks[i]].cond.length cc, .slice (some ⟨P.V, 0, none⟩) 4 P.cv] wr fun e w' => (∃ x, e = .returned (.tuple #[.int .i64 x, .bool (Ex.evOk ss[ks[i]].cond s.vars)]) ∧ (Ex.evOk ss[ks[i]].cond s.vars = true → x = (Ex.evs ss[ks[i]].cond s.vars ss[ks[i]].cond.length).getD (ss[ks[i]].cond.length - 1) 0)) ∧ Below wr.heap.size wr w') := hid (fun h0 ht => by
        obtain ⟨hh0, h16, hok⟩ := Ex.of_e (Ex.of_type ht)
        exact Ex.specEval 0 0 _ s.vars _ _ wr hh0 h16 hok HVF.out hcn hS.vars)
      rw [PJ_eq hx] at HE0 HE1 HE2 HE3 HCO
      clear hcell hS p0 p1 p2 p3 p5 hcn
      generalize hcd : ss[ks[i]].cond = cd at *
      have HCD := hid hcd
      clear hcd
      generalize ks[i] = x at *
      by_cases h0 : cd.length = 0
      · have b0 : ((cd.length : Int) == 0) = true := by simp [h0]
        have HX : Hid (optI (pick ss s.vars ks) = (x : Int)) := hid (by rw [HA.out, HE0.out h0]; rfl)
        clear h0 HE0 HE1 HE2 HE3 HEV HCO HA
        go_wp2
        go_ret
        exact ⟨by rw [HX.out]; rfl, HBW.out⟩
      have b0 : ((cd.length : Int) == 0) = false := by simp [h0]
      obtain ⟨ht, htv⟩ := HCO.out h0
      have HEV1 := hid (HEV.out h0 ht)
      have HVO := hid (Ex.ev_ok ht HVF.out)
      have HVB := hid (Ex.ev_bad ht HVF.out)
      have HE1' := hid (HE1.out h0)
      have HE2' := hid (HE2.out h0)
      have HE3' := hid (HE3.out h0)
      clear h0 HE0 HE1 HE2 HE3 HEV HCO ht htv
      go_wp2_with fail
      refine HEV1.out.mono ?_
      rintro e w2 ⟨⟨y, rfl, hy⟩, hb2⟩
      have HB2 := hid (HBR.out.trans (hb2.mono HBR.out.size))
      have HB3 := hid (HBW.out.trans (hb2.mono HBW.out.size))
      have c1' := (hb2.cell (p := ⟨bk, i, none⟩) hbk).trans c1
      clear hb2 c1 p4 m2
      cases ho : Ex.evOk cd s.vars
      · have HX : Hid (optI (pick ss s.vars ks) = -1) := hid (by rw [HA.out, HE1'.out (by rw [(HVB.out ho).1]; decide)]; rfl)
        clear ho hy HVO HVB HE1' HE2' HE3' HA HEV1
        go_wp2
        go_ret
        exact ⟨by rw [HX.out]; rfl, HB3.out⟩
      · have hev := HVO.out ho
        rw [hy ho, ← hev.2]
        by_cases h1 : evalVal cd s.vars = 1
        · have b1 : (evalVal cd s.vars == 1) = true := by simp [h1]
          have HX : Hid (optI (pick ss s.vars ks) = (x : Int)) := hid (by rw [HA.out, HE2'.out hev.1 h1]; rfl)
          clear h1 hy HVO HVB HE1' HE2' HE3' HA HEV1 hev ho
          generalize evalVal cd s.vars = ev at *
          go_wp2
          go_ret
          exact ⟨by rw [HX.out]; rfl, HB3.out⟩
        · have b1 : (evalVal cd s.vars == 1) = false := by simp [h1]
          have HX : Hid (pick ss s.vars ks = pick ss s.vars (ks.drop (i + 1))) := hid (by rw [HA.out, HE3'.out hev.1 h1])
          clear h1 hy HVO HVB HE1' HE2' HE3' HA HEV1 hev ho
          generalize evalVal cd s.vars = ev at *
          go_wp2
          exact ⟨⟨i + 1, by simp, by omega, HX, HB2⟩, by simp [intOf]; omega⟩
    · have HX : Hid (optI (pick ss s.vars ks) = -1) := hid (by rw [HA.out, pick_end hlt]; rfl)
      have q1 : ¬ (i : Int) < (ks.length : Int) := by omega
      go_wp2
      go_ret
      exact ⟨by rw [HX.out]; rfl, HBW.out⟩
end Kt
end Go.Proofs.YtpgbjpfpgbjbeaaGreatDoor
