/- What the program does where a step chooses one below it. -/
import Derived.Test.YtpgbjpfpgbjbeaaGreatDoorJCh36
import Derived.Test.YtpgbjpfpgbjbeaaGreatDoorJCh28
import Derived.Deep.CutRange
namespace Go.Proofs.YtpgbjpfpgbjbeaaGreatDoor
open Go.RowKit Go.Deep
set_option linter.unusedVariables false
set_option linter.unusedSimpArgs false
namespace Ku
open Ex (inR evalCode evalVal vFault hid)
open St (StepD)
open Pf
open Kc (CS upd zer endOf stopped idle pick aft allOver kid go mE mO Ok kid_mem kid_lt kid_in KAt Rides kval PBlk cntK beginG behindG)
theorem last_free {ss : List StepD} {k i : Nat} (hp : pFault ss = 0) (hi : i < (kidsL ss k).length) (hl : i + 1 = (kidsL ss k).length) : (PJ ss (kidsL ss k)[i]).cond.length = 0 := by
  have hm := kid_mem.1 (List.getElem_mem hi)
  have h := first_all (of_p hp).2.2.1 hm.1
  have hn : needs ss (kidsL ss k)[i] = false := by
    unfold needs lastIs
    rw [hm.2]
    have h9 : (kidsL ss k).getLast? = some (kidsL ss k)[i] := by
      rw [List.getLast?_eq_getElem?, show (kidsL ss k).length - 1 = i by omega]
      exact List.getElem?_eq_getElem hi
    simp [h9]
  by_cases hc : (PJ ss (kidsL ss k)[i]).cond.length = 0
  · exact hc
  · exfalso
    cases hmn : manyOk (PJ ss (kidsL ss k)[i]).kind (kidsL ss (kidsL ss k)[i]).length
    · rw [link_many hmn] at h; cases h
    · rw [link_need hmn (by rw [hn]; intro h8; have := of_decide_eq_false h8.symm; omega)] at h; cases h
def chosen (ss : List StepD) (f : Nat) (s : CS) : Option Nat → CS
  | some j => go ss f false j s
  | none => stopped s 3
theorem many_of {ss : List StepD} {k : Nat} (hp : pFault ss = 0) (hk : k < ss.length) : manyOk (PJ ss k).kind (kidsL ss k).length = true := by
  have h := first_all (of_p hp).2.2.1 hk
  cases hmn : manyOk (PJ ss k).kind (kidsL ss k).length
  · rw [link_many hmn] at h; cases h
  · rfl
set_option maxRecDepth 100000 in
set_option maxHeartbeats 16000000 in
theorem chooseU (wg w : World) (R : Nat) (u : Value) (ss : List StepD) (s : CS) (k f : Nat) (kv vc ve : Value) (hp : pFault ss = 0) (hk : k < ss.length) (h3 : (PJ ss k).kind = 3) (hm : mE ss k ≤ f + 1) (hok : Ok s) (hE : EnterU wg R u ss f) (hpc : PCells wg ss k hk kv vc ve) (h : KAt wg w R u ss s) :
    Calls Tryz.prog 105 #[.pointer (some ⟨R, 0, none⟩), .agg #[.int .i64 (k : Int), .int .i64 ((path ss (k + 1)).length : Int), kv, .int .i64 ss[k].kind, .int .i64 ss[k].parent, .string ss[k].name, .int .i64 ss[k].arg, vc, ve]] w (UPost wg R u ss (chosen ss f s (pick ss s.vars (kidsL ss k))) w) := by
  have hl : ss.length ≤ 24 := by have := (of_p hp).1; omega
  have hn2 : 2 ≤ (kidsL ss k).length := by have := many_of hp hk; rw [h3] at this; simpa [manyOk] using this
  have HLF : Hid (∀ i (hi : i < (kidsL ss k).length), i + 1 = (kidsL ss k).length → (PJ ss (kidsL ss k)[i]).cond.length = 0) := hid (fun i hi => last_free hp hi)
  have HKM : Hid (∀ x ∈ kidsL ss k, x < ss.length ∧ mE ss x ≤ f) := hid (fun x hx => ⟨(kid_mem.1 hx).1, by have := Kc.m_kid hp hx; omega⟩)
  have HKA := hid hpc.kids
  obtain ⟨bk, ck, rfl, hbk, _, _, hcell⟩ := Kc.kids_at hpc.kids (by omega)
  obtain ⟨ac0, cc0, rfl⟩ := hpc.cond.slice
  obtain ⟨ae0, ce0, rfl⟩ := hpc.expr.slice
  have hRl := h.lt
  obtain ⟨w0, e0⟩ : ∃ w0, w0 = w.alloc (.cells #[.int .i64 (k : Int), .int .i64 ((path ss (k + 1)).length : Int), .slice (some ⟨bk, 0, none⟩) (kidsL ss k).length ck, .int .i64 ss[k].kind, .int .i64 ss[k].parent, .string ss[k].name, .int .i64 ss[k].arg, .slice ac0 ss[k].cond.length cc0, .slice ae0 ss[k].expr.length ce0] 86) := ⟨_, rfl⟩
  have hb0 : Below w.heap.size w w0 := by rw [e0]; exact (Below.refl _ w).alloc (Nat.le_refl _) _
  have hx0 : PBlk w0 w.heap.size #[.int .i64 (k : Int), .int .i64 ((path ss (k + 1)).length : Int), .slice (some ⟨bk, 0, none⟩) (kidsL ss k).length ck, .int .i64 ss[k].kind, .int .i64 ss[k].parent, .string ss[k].name, .int .i64 ss[k].arg, .slice ac0 ss[k].cond.length cc0, .slice ae0 ss[k].expr.length ce0] := by rw [e0]; exact Ch.new_blk _ _
  have d2 := hx0.cell 2
  simp only [List.getElem?_toArray, List.getElem?_cons_succ, List.getElem?_cons_zero] at d2
  have HK0 := hid (h.below hb0)
  have HR0 : Hid (Rides R w w0) := hid (Rides.of_below hb0)
  have HOK := hid hok
  have HPF := hid hp
  have HE := hid hE
  have hk24 : (kidsL ss k).length ≤ 24 := by have := kidsN_le ss ss.length k; unfold kidsL; omega
  have hlt0 : w.heap.size < w0.heap.size := Ch.blk_lt hx0
  have hRl0 : R < w0.heap.size := by omega
  have HOld := hid h.old
  have hwg : wg.heap.size ≤ w.heap.size := h.bel.size
  have HC0 : Hid (∀ i (hi : i < (kidsL ss k).length), w0.cell? ⟨bk, i, none⟩ = some (.int .i64 ((kidsL ss k)[i] : Int))) := hid (fun i hi => ((h.bel.trans (hb0.mono h.bel.size)).cell (p := ⟨bk, i, none⟩) hbk).trans (hcell i hi))
  have hbk0 : bk < w0.heap.size := by omega
  clear h hok hE hpc hb0 hx0 hcell HKA hm h3 hp
  generalize kidsL ss k = ks at *
  obtain ⟨tgt, et⟩ : ∃ tgt, tgt = chosen ss f s (pick ss s.vars ks) := ⟨_, rfl⟩
  rw [← et]
  have ET := hid et
  clear et
  go_enter Tryz.func105, Tryz.ntmps105
  go_wp2
  rw [← e0]
  clear e0
  go_wp2
  go_loopw [5, 6, 11] (fun _ _ y wr => ∃ i : Nat, y = .int .i64 i ∧ i < ks.length ∧ Hid (pick ss s.vars ks = pick ss s.vars (ks.drop i)) ∧ Hid (Below w0.heap.size w0 wr)) (fun _ _ y _ => ks.length - (intOf y).toNat)
  case atStart => exact ⟨0, rfl, by omega, hid (by rw [List.drop_zero]), hid (Below.refl _ _)⟩
  case round =>
    obtain ⟨i, rfl, hi, HA, HBR⟩ := hrel
    have c1 := (HBR.out.cell (p := ⟨bk, i, none⟩) hbk0).trans (HC0.out i hi)
    have hxm := HKM.out _ (List.getElem_mem hi)
    have hx := hxm.1
    have HMX := hid hxm.2
    have HLI := hid (HLF.out i hi)
    have HE0 := hid (Kt.pick_none (ss := ss) (vars := s.vars) hi)
    have HE1 := hid (Kt.pick_bad (ss := ss) (vars := s.vars) hi)
    have HE2 := hid (Kt.pick_yes (ss := ss) (vars := s.vars) hi)
    have HE3 := hid (Kt.pick_no (ss := ss) (vars := s.vars) hi)
    have hKr := HK0.out.below HBR.out
    have hsz : w0.heap.size ≤ wr.heap.size := HBR.out.size
    obtain ⟨gu, cu, kv1, vc1, ve1, eu, hgu, _, _, _, _, _, _, _, g7, _, hpc1⟩ := KAt.cells hKr hx
    obtain ⟨ac, cc, rfl⟩ := hpc1.cond.slice
    have g0 := hKr.c0
    rw [eu] at g0
    have hgl : gu < wr.heap.size := by omega
    have hRl1 : R < wr.heap.size := by omega
    rw [PJ_eq hx] at HLI HE0 HE1 HE2 HE3
    have h16 : ss[ks[i]].cond.length ≤ 1048576 := by
      by_cases h0 : ss[ks[i]].cond.length = 0
      · omega
      · have hc := (Kt.cond_ok HPF.out hx); rw [PJ_eq hx] at hc; have := (Ex.of_e (Ex.of_type (hc h0).1)).2.1; omega
    have HEV : Hid (∀ wx, Below wr.heap.size wr wx → Calls Tryz.prog 130 #[.slice ac ss[ks[i]].cond.length cc, .slice (some ⟨R, 3, none⟩) 4 4] wx fun e w' => e = .returned (.agg #[.int .i64 (ansC ss[ks[i]].cond s.vars), .int .i64 (ansV ss[ks[i]].cond s.vars)]) ∧ Below wx.heap.size wx w') := hid (fun wx hb => answerTo _ s.vars _ _ wx h16 (by rw [hKr.len]; omega) (hpc1.cond.below (hKr.bel.trans (hb.mono hKr.bel.size))) (KAt.vars (hKr.below hb)))
    have HKR := hid hKr
    clear hKr hpc1 hxm h16
    have HP : Hid ((ansC ss[ks[i]].cond s.vars ≠ 0 → pick ss s.vars ks = none) ∧ (ansC ss[ks[i]].cond s.vars = 0 → ansV ss[ks[i]].cond s.vars = 1 → pick ss s.vars ks = some ks[i]) ∧ (ansC ss[ks[i]].cond s.vars = 0 → ansV ss[ks[i]].cond s.vars ≠ 1 → i + 1 < ks.length ∧ pick ss s.vars ks = pick ss s.vars (ks.drop (i + 1)))) := hid (by
      unfold ansC ansV
      by_cases h0 : ss[ks[i]].cond.length = 0
      · rw [if_pos h0, if_pos h0]
        exact ⟨fun h => absurd rfl h, fun _ _ => HA.out.trans (HE0.out h0), fun _ h => absurd rfl h⟩
      · rw [if_neg h0, if_neg h0]
        exact ⟨fun h => HA.out.trans (HE1.out h0 h), fun h1 h2 => HA.out.trans (HE2.out h0 h1 h2), fun h1 h2 => ⟨Nat.lt_of_le_of_ne hi (fun hh => h0 (HLI.out hh)), HA.out.trans (HE3.out h0 h1 h2)⟩⟩)
    clear HE0 HE1 HE2 HE3 HLI HA
    generalize ansC ss[ks[i]].cond s.vars = ec at *
    generalize ansV ss[ks[i]].cond s.vars = ev at *
    generalize ss[ks[i]].cond.length = nc at *
    generalize hxe : ks[i] = x at *
    have HXE := hid hxe
    clear hxe
    have HXB : Hid (∀ wx, Below wr.heap.size wr wx → wx.cell? ⟨R, 0, none⟩ = some (.slice (some ⟨gu, 0, none⟩) ss.length cu) ∧ wx.cell? ⟨gu, x * 9 + 7, none⟩ = some (.slice ac nc cc)) := hid (fun wx hb => ⟨(hb.cell (p := ⟨R, 0, none⟩) hRl1).trans g0, (hb.cell (p := ⟨gu, x * 9 + 7, none⟩) hgl).trans g7⟩)
    have HXd := hid (HXB.out wr.drew (Below.refl _ wr).drew)
    have HBd : Hid (Below wr.heap.size wr wr.drew) := hid (Below.refl _ wr).drew
    have q1 : (i : Int) < (ks.length : Int) := by omega
    have q2 : (0 : Int) ≤ (x : Int) := by omega
    have q3 : (x : Int) < (ss.length : Int) := by omega
    clear g0 g7
    go_wp2
    go_cut [6] from 12 to 41 (fun s6 wx => ∃ p, s6 = .pointer (some ⟨p, 0, none⟩) ∧ Hid (wr.heap.size ≤ p) ∧ Hid (wx.heap[p]? = some (.cells #[.int .i64 ec, .int .i64 ev] 159)) ∧ Hid (Below wr.heap.size wr wx))
    case first =>
      refine wp_region_held_drew (S := fun wx => wx.cell? ⟨R, 0, none⟩ = some (.slice (some ⟨gu, 0, none⟩) ss.length cu) ∧ wx.cell? ⟨gu, x * 9 + 7, none⟩ = some (.slice ac nc cc)) (by kernel_rfl) HXd.out (fun hHeld => ?_)
      refine wpAnyH_take (i := 0) (v := .pointer (some ⟨R, 0, none⟩)) rfl (by kernel_rfl) (by kernel_rfl) (by kernel_rfl) (fun _ _ _ h => h) (Or.inl ⟨by kernel_rfl, by intro w hSw; (try dsimp only at hSw); go_simp⟩) (by assumption) ?_
      simp only [Act.put, List.setIfInBounds_toArray, List.set_cons_zero, List.set_cons_succ]
      refine wpAnyH_take (i := 1) (v := .pointer (some ⟨R, 0, none⟩)) rfl (by kernel_rfl) (by kernel_rfl) (by kernel_rfl) (fun _ _ _ h => h) (Or.inl ⟨by kernel_rfl, by intro w hSw; (try dsimp only at hSw); go_simp⟩) (by assumption) ?_
      simp only [Act.put, List.setIfInBounds_toArray, List.set_cons_zero, List.set_cons_succ]
      refine wpAnyH_take (i := 2) (v := .pointer (some ⟨R, 0, none⟩)) rfl (by kernel_rfl) (by kernel_rfl) (by kernel_rfl) (fun _ _ _ h => h) (Or.inl ⟨by kernel_rfl, by intro w hSw; (try dsimp only at hSw); go_simp⟩) (by assumption) ?_
      simp only [Act.put, List.setIfInBounds_toArray, List.set_cons_zero, List.set_cons_succ]
      refine wpAnyH_take (i := 3) (v := .slice (some ⟨gu, 0, none⟩) ss.length cu) rfl (by kernel_rfl) (by kernel_rfl) (by kernel_rfl) (fun _ _ _ h => h) (Or.inl ⟨by kernel_rfl, by intro w hSw; (try dsimp only at hSw); obtain ⟨m1, m2⟩ := hSw; go_simp⟩) (by assumption) ?_
      simp only [Act.put, List.setIfInBounds_toArray, List.set_cons_zero, List.set_cons_succ]
      refine wpAnyH_take (i := 4) (v := .int .i64 (x : Int)) rfl (by kernel_rfl) (by kernel_rfl) (by kernel_rfl) (fun _ _ _ h => h) (Or.inl ⟨by kernel_rfl, by intro w hSw; (try dsimp only at hSw); go_simp⟩) (by assumption) ?_
      simp only [Act.put, List.setIfInBounds_toArray, List.set_cons_zero, List.set_cons_succ]
      refine wpAnyH_take (i := 5) (v := .pointer (some ⟨gu, x * 9, none⟩)) rfl (by kernel_rfl) (by kernel_rfl) (by kernel_rfl) (fun _ _ _ h => h) (Or.inl ⟨by kernel_rfl, by intro w hSw; (try dsimp only at hSw); go_simp⟩) (by assumption) ?_
      simp only [Act.put, List.setIfInBounds_toArray, List.set_cons_zero, List.set_cons_succ]
      refine wpAnyH_take (i := 6) (v := .pointer (some ⟨gu, x * 9 + 3, none⟩)) rfl (by kernel_rfl) (by kernel_rfl) (by kernel_rfl) (fun _ _ _ h => h) (Or.inl ⟨by kernel_rfl, by intro w hSw; (try dsimp only at hSw); go_simp⟩) (by assumption) ?_
      simp only [Act.put, List.setIfInBounds_toArray, List.set_cons_zero, List.set_cons_succ]
      refine wpAnyH_take (i := 7) (v := .pointer (some ⟨gu, x * 9 + 7, none⟩)) rfl (by kernel_rfl) (by kernel_rfl) (by kernel_rfl) (fun _ _ _ h => h) (Or.inl ⟨by kernel_rfl, by intro w hSw; (try dsimp only at hSw); go_simp⟩) (by assumption) ?_
      simp only [Act.put, List.setIfInBounds_toArray, List.set_cons_zero, List.set_cons_succ]
      refine wpAnyH_take (i := 8) (v := .slice ac nc cc) rfl (by kernel_rfl) (by kernel_rfl) (by kernel_rfl) (fun _ _ _ h => h) (Or.inl ⟨by kernel_rfl, by intro w hSw; (try dsimp only at hSw); obtain ⟨m1, m2⟩ := hSw; go_simp⟩) (by assumption) ?_
      simp only [Act.put, List.setIfInBounds_toArray, List.set_cons_zero, List.set_cons_succ]
      refine wpAnyH_take (i := 9) (v := .pointer (some ⟨R, 0, none⟩)) rfl (by kernel_rfl) (by kernel_rfl) (by kernel_rfl) (fun _ _ _ h => h) (Or.inl ⟨by kernel_rfl, by intro w hSw; (try dsimp only at hSw); go_simp⟩) (by assumption) ?_
      simp only [Act.put, List.setIfInBounds_toArray, List.set_cons_zero, List.set_cons_succ]
      refine wpAnyH_take (i := 10) (v := .pointer (some ⟨R, 0, none⟩)) rfl (by kernel_rfl) (by kernel_rfl) (by kernel_rfl) (fun _ _ _ h => h) (Or.inl ⟨by kernel_rfl, by intro w hSw; (try dsimp only at hSw); go_simp⟩) (by assumption) ?_
      simp only [Act.put, List.setIfInBounds_toArray, List.set_cons_zero, List.set_cons_succ]
      refine wpAnyH_take (i := 11) (v := .pointer (some ⟨R, 3, none⟩)) rfl (by kernel_rfl) (by kernel_rfl) (by kernel_rfl) (fun _ _ _ h => h) (Or.inl ⟨by kernel_rfl, by intro w hSw; (try dsimp only at hSw); go_simp⟩) (by assumption) ?_
      simp only [Act.put, List.setIfInBounds_toArray, List.set_cons_zero, List.set_cons_succ]
      refine wpAnyH_take (i := 12) (v := .slice (some ⟨R, 3, none⟩) 4 4) rfl (by kernel_rfl) (by kernel_rfl) (by kernel_rfl) (fun _ _ _ h => h) (Or.inl ⟨by kernel_rfl, by intro w hSw; (try dsimp only at hSw); go_simp⟩) (by assumption) ?_
      simp only [Act.put, List.setIfInBounds_toArray, List.set_cons_zero, List.set_cons_succ]
      refine wpAnyH_ready (rs := [13, 14]) (by kernel_rfl) (by simp) ?_
      refine AllReadyH.cons rfl (fun K hK => ?_) (AllReadyH.cons rfl (fun K hK => ?_) AllReadyH.nil)
      · go_simp
        go_at_call 130
        refine (HEV.out _ HBd.out).mono ?_
        rintro e q1 ⟨rfl, hq1⟩
        have BQ : Below wr.heap.size wr q1 := HBd.out.trans (hq1.mono HBd.out.size)
        have hXq := HXB.out _ BQ
        clear hq1
        go_wp2_with fail
        refine hK.out _ _ hXq (fun hHeld => ?_)
        clear hK K
        try simp only [Act.put, List.setIfInBounds_toArray, List.set_cons_zero, List.set_cons_succ]
        refine wpAnyH_ready (rs := [14]) (by kernel_rfl) (by simp) ?_
        refine AllReadyH.cons rfl (fun K hK => ?_) AllReadyH.nil
        go_simp
        obtain ⟨qA, eA⟩ : ∃ qA, qA = q1.alloc (.cells #[.int .i64 0, .int .i64 0] 159) := ⟨_, rfl⟩
        have hA : Below q1.heap.size q1 qA := by rw [eA]; exact (Below.refl _ q1).alloc (Nat.le_refl _) _
        have hPA : qA.heap[q1.heap.size]? = some (.cells #[.int .i64 0, .int .i64 0] 159) := by rw [eA]; exact Ch.new_blk _ _
        have BA : Below wr.heap.size wr qA := BQ.trans (hA.mono BQ.size)
        have hlp : wr.heap.size ≤ q1.heap.size := BQ.size
        rw [← eA]
        clear eA
        refine hK.out _ _ (HXB.out _ BA) (fun hHeld => ?_)
        clear hK K
        try simp only [Act.put, List.setIfInBounds_toArray, List.set_cons_zero, List.set_cons_succ]
        have t0 := Ch.blk_free hPA 0
        have t1 := Ch.blk_free hPA 1
        have z0 := Ch.blk_cell hPA 0
        have z1 := Ch.blk_cell hPA 1
        have hbS : Below wr.heap.size wr ((qA.setCell ⟨q1.heap.size, 0, none⟩ (.int .i64 ec)).setCell ⟨q1.heap.size, 1, none⟩ (.int .i64 ev)) := (BA.setCell (p := ⟨q1.heap.size, 0, none⟩) hlp _).setCell (p := ⟨q1.heap.size, 1, none⟩) hlp _
        have hPS : ((qA.setCell ⟨q1.heap.size, 0, none⟩ (.int .i64 ec)).setCell ⟨q1.heap.size, 1, none⟩ (.int .i64 ev)).heap[q1.heap.size]? = some (.cells #[.int .i64 ec, .int .i64 ev] 159) := by have h9 := Ch.blk_set (i := 1) (Ch.blk_set (i := 0) hPA (.int .i64 ec)) (.int .i64 ev); simpa using h9
        refine wpAnyH_ready (rs := [15]) (by kernel_rfl) (by simp) ?_
        refine AllReadyH.cons rfl (fun K hK => ?_) AllReadyH.nil
        go_simp
        refine hK.out _ _ (HXB.out _ hbS) (fun hHeld => ?_)
        clear hK K
        try simp only [Act.put, List.setIfInBounds_toArray, List.set_cons_zero, List.set_cons_succ]
        refine wpAnyH_done (by kernel_rfl) ?_ _
        go_wp2_with fail
        go_meet
        exact ⟨q1.heap.size, rfl, hid hlp, hid hPS, hid hbS⟩
      · go_simp
        obtain ⟨qA, eA⟩ : ∃ qA, qA = (wr.alloc (.cells #[.int .i64 0, .int .i64 0] 159)).drew := ⟨_, rfl⟩
        have hA : Below wr.heap.size wr qA := by rw [eA]; exact ((Below.refl _ wr).alloc (Nat.le_refl _) _).drew
        have hP0 : qA.heap[wr.heap.size]? = some (.cells #[.int .i64 0, .int .i64 0] 159) := by rw [eA]; exact Ch.new_blk _ _
        rw [← eA]
        clear eA
        refine hK.out _ _ (HXB.out _ hA) (fun hHeld => ?_)
        clear hK K
        try simp only [Act.put, List.setIfInBounds_toArray, List.set_cons_zero, List.set_cons_succ]
        refine wpAnyH_ready (rs := [13]) (by kernel_rfl) (by simp) ?_
        refine AllReadyH.cons rfl (fun K hK => ?_) AllReadyH.nil
        go_simp
        go_at_call 130
        refine (HEV.out _ hA).mono ?_
        rintro e q1 ⟨rfl, hq1⟩
        have BQ : Below wr.heap.size wr q1 := hA.trans (hq1.mono hA.size)
        have BA := BQ
        have hPA := (hq1.block _ (Ch.blk_lt hP0)).trans hP0
        have hlp : wr.heap.size ≤ wr.heap.size := Nat.le_refl _
        have hXq := HXB.out _ BQ
        clear hq1
        go_wp2_with fail
        refine hK.out _ _ hXq (fun hHeld => ?_)
        clear hK K
        try simp only [Act.put, List.setIfInBounds_toArray, List.set_cons_zero, List.set_cons_succ]
        have t0 := Ch.blk_free hPA 0
        have t1 := Ch.blk_free hPA 1
        have z0 := Ch.blk_cell hPA 0
        have z1 := Ch.blk_cell hPA 1
        have hbS : Below wr.heap.size wr ((q1.setCell ⟨wr.heap.size, 0, none⟩ (.int .i64 ec)).setCell ⟨wr.heap.size, 1, none⟩ (.int .i64 ev)) := (BA.setCell (p := ⟨wr.heap.size, 0, none⟩) hlp _).setCell (p := ⟨wr.heap.size, 1, none⟩) hlp _
        have hPS : ((q1.setCell ⟨wr.heap.size, 0, none⟩ (.int .i64 ec)).setCell ⟨wr.heap.size, 1, none⟩ (.int .i64 ev)).heap[wr.heap.size]? = some (.cells #[.int .i64 ec, .int .i64 ev] 159) := by have h9 := Ch.blk_set (i := 1) (Ch.blk_set (i := 0) hPA (.int .i64 ec)) (.int .i64 ev); simpa using h9
        refine wpAnyH_ready (rs := [15]) (by kernel_rfl) (by simp) ?_
        refine AllReadyH.cons rfl (fun K hK => ?_) AllReadyH.nil
        go_simp
        refine hK.out _ _ (HXB.out _ hbS) (fun hHeld => ?_)
        clear hK K
        try simp only [Act.put, List.setIfInBounds_toArray, List.set_cons_zero, List.set_cons_succ]
        refine wpAnyH_done (by kernel_rfl) ?_ _
        go_wp2_with fail
        go_meet
        exact ⟨wr.heap.size, rfl, hid hlp, hid hPS, hid hbS⟩
    case rest =>
      obtain ⟨p, rfl, HLP, HPB, HBC⟩ := hcut
      have HKc := hid (HKR.out.below HBC.out)
      have HBT := hid (HBR.out.trans (HBC.out.mono HBR.out.size))
      have HRc := hid ((HR0.out.trans (Rides.of_below HBR.out)).trans (Rides.of_below HBC.out))
      have t0 := Ch.blk_cell HPB.out 0
      have t1 := Ch.blk_cell HPB.out 1
      simp only [List.getElem?_toArray, List.getElem?_cons_succ, List.getElem?_cons_zero] at t0 t1
      have tl := Ch.blk_lt HPB.out
      by_cases hc : ec = 0
      · have b0 : (ec != 0) = false := by simp [hc]
        by_cases hv : ev = 1
        · have b1 : (ev == 1) = true := by simp [hv]
          have HX : Hid (tgt = go ss f false x s) := hid (by rw [ET.out, HP.out.2.1 hc hv]; rfl)
          have HEN := hid (entering wg wc R u ss s x hl hx HKc.out)
          clear hc hv HP HEV
          go_wp2_with (go_at_call 40; refine HEN.out.mono ?_; rintro e w6 ⟨⟨b1, b2, b3, rfl, hcl⟩, hb6⟩)
          have HE6 := hid (HE.out x s w6 b1 b2 b3 hx HMX.out HOK.out (HKc.out.below hb6) hcl)
          have HR6 := hid (HRc.out.trans (Rides.of_below hb6))
          clear hcl hb6
          go_wp2_with (go_at_call 73; refine HE6.out.mono ?_; rintro e w7 hT; obtain rfl := hT.1; have HU := hid hT; clear hT)
          refine bodyPost_ret (results_none Tryz.results105 _ _ _) rfl ?_
          exact UPost.of' HU.out HR6.out HX.out
        · have b1 : (ev == 1) = false := beq_eq_false_iff_ne.2 hv
          have hn := HP.out.2.2 hc hv
          have hn1 := hn.1
          have HN := hid hn.2
          clear hc hv HP HEV hn
          go_wp2
          exact ⟨⟨i + 1, by simp, hn1, HN, HBT⟩, by simp [intOf]; omega⟩
      · have b0 : (ec != 0) = true := bne_iff_ne.2 hc
        have HX : Hid (tgt = stopped s 3) := hid (by rw [ET.out, HP.out.1 hc]; rfl)
        have HSP := hid (stop wg wc R u ss s 3 hl HKc.out)
        clear hc HP HEV
        go_wp2_with (go_at_call 114; refine HSP.out.mono ?_; rintro e w6 hT; obtain rfl := hT.1; have HU := hid hT; clear hT)
        refine bodyPost_ret (results_none Tryz.results105 _ _ _) rfl ?_
        exact UPost.of' HU.out HRc.out HX.out
end Ku
end Go.Proofs.YtpgbjpfpgbjbeaaGreatDoor
