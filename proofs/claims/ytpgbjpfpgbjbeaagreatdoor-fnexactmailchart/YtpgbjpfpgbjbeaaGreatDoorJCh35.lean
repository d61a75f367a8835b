/- A step entered, and one that is over, by the specification. -/
import Derived.Test.YtpgbjpfpgbjbeaaGreatDoorJCh34
namespace Go.Proofs.YtpgbjpfpgbjbeaaGreatDoor
open Go.RowKit Go.Deep
set_option linter.unusedVariables false
set_option linter.unusedSimpArgs false
namespace Kt
open Ex (inR evalCode evalVal vFault hid)
open St (StepD)
open Pf
open Kc (CS upd zer endOf stopped idle pick aft allOver kid go mE mO Ok kid_mem kid_lt kid_in beginG behindG)
def EnterAt (wg : World) (P : Pos) (v : Value) (ss : List StepD) (f : Nat) : Prop :=
  ∀ k s w, k < ss.length → mE ss k ≤ f → Ok s → SAt wg w P v ss s → Calls Tryz.prog 35 #[v, .pointer (some ⟨P.R, 0, none⟩), .int .i64 (k : Int)] w (TPost wg P v ss (go ss f false k s) w)
def OverAt (wg : World) (P : Pos) (v : Value) (ss : List StepD) (f : Nat) : Prop :=
  ∀ k s w, k < ss.length → mO ss k ≤ f → Ok s → SAt wg w P v ss s → Calls Tryz.prog 50 #[v, .pointer (some ⟨P.R, 0, none⟩), .int .i64 (k : Int)] w (TPost wg P v ss (go ss f true k s) w)
theorem TPost.of {wg : World} {P : Pos} {v : Value} {ss : List StepD} {s s' : CS} {w w1 w2 : World} {e : Ending} (h : TPost wg P v ss s' w1 e w2) (hr : Ride P w w1) (hs : s = s') : TPost wg P v ss s w e w2 := by
  subst hs
  exact ⟨h.1, h.2.1, hr.trans h.2.2⟩
theorem kid_ix {ss : List StepD} {k i : Nat} (h : i < (kidsL ss k).length) : kid ss k i = (kidsL ss k)[i] := by
  unfold kid
  rw [List.getD_eq_getElem?_getD, List.getElem?_eq_getElem h]
  rfl
theorem bg1 {E O : Nat → CS → CS} {ss : List StepD} {k : Nat} {s : CS} (h : (PJ ss k).kind = 1) : beginG E O ss k s = E (kid ss k 0) s := by unfold beginG; rw [if_pos h]
theorem bg3 {E O : Nat → CS → CS} {ss : List StepD} {k : Nat} {s : CS} (h : (PJ ss k).kind = 3) : beginG E O ss k s = (match pick ss s.vars (kidsL ss k) with | some j => E j s | none => stopped s 3) := by
  unfold beginG
  rw [if_neg (by omega), if_pos h]
  cases pick ss s.vars (kidsL ss k) <;> rfl
theorem bg4 {E O : Nat → CS → CS} {ss : List StepD} {k : Nat} {s : CS} (h : (PJ ss k).kind = 4) : beginG E O ss k s = (kidsL ss k).foldl (fun s j => E j s) s := by unfold beginG; rw [if_neg (by omega), if_neg (by omega), if_pos h]
theorem bg6 {E O : Nat → CS → CS} {ss : List StepD} {k : Nat} {s : CS} (h : (PJ ss k).kind = 6) : beginG E O ss k s = Kc.due s k (s.now + (PJ ss k).arg) := by unfold beginG; rw [if_neg (by omega), if_neg (by omega), if_neg (by omega), if_pos h]
theorem bg7 {E O : Nat → CS → CS} {ss : List StepD} {k : Nat} {s : CS} (h : (PJ ss k).kind = 7) : beginG E O ss k s = (if evalCode (PJ ss k).expr s.vars = 0 then O k (Kc.setV s (PJ ss k).arg.toNat (evalVal (PJ ss k).expr s.vars)) else stopped s 3) := by unfold beginG; rw [if_neg (by omega), if_neg (by omega), if_neg (by omega), if_neg (by omega), if_pos h]
theorem bg8 {E O : Nat → CS → CS} {ss : List StepD} {k : Nat} {s : CS} (h : (PJ ss k).kind = 8) : beginG E O ss k s = E (kid ss k 0) (Kc.due s k (s.now + (PJ ss k).arg)) := by unfold beginG; rw [if_neg (by omega), if_neg (by omega), if_neg (by omega), if_neg (by omega), if_neg (by omega), if_pos h]
theorem bg0 {E O : Nat → CS → CS} {ss : List StepD} {k : Nat} {s : CS} (h : (PJ ss k).kind = 2 ∨ (PJ ss k).kind = 5) : beginG E O ss k s = s := by unfold beginG; rw [if_neg (by omega), if_neg (by omega), if_neg (by omega), if_neg (by omega), if_neg (by omega), if_neg (by omega)]
theorem arg_in {ss : List StepD} {k : Nat} (hp : pFault ss = 0) (hk : k < ss.length) (h : (PJ ss k).kind = 6 ∨ (PJ ss k).kind = 8) : 1 ≤ (PJ ss k).arg ∧ (PJ ss k).arg ≤ 99 := by
  have h5 := (of_one (first_all (of_p hp).2.1 hk)).2.2.2.2
  have hn : ¬ ((PJ ss k).kind = 2 ∧ Tr.nf (PJ ss k).name.data.toList ≠ 0) := fun hh => by omega
  cases ha : argOk (PJ ss k)
  · rw [part_arg hn ha] at h5; cases h5
  · unfold argOk at ha
    rw [if_neg (by omega), if_pos h] at ha
    exact Ex.inR_iff.1 ha
theorem arg_set {ss : List StepD} {k : Nat} (hp : pFault ss = 0) (hk : k < ss.length) (h : (PJ ss k).kind = 7) : 0 ≤ (PJ ss k).arg ∧ (PJ ss k).arg ≤ 3 := by
  have h5 := (of_one (first_all (of_p hp).2.1 hk)).2.2.2.2
  have hn : ¬ ((PJ ss k).kind = 2 ∧ Tr.nf (PJ ss k).name.data.toList ≠ 0) := fun hh => by omega
  cases ha : argOk (PJ ss k)
  · rw [part_arg hn ha] at h5; cases h5
  · unfold argOk at ha
    rw [if_neg (by omega), if_neg (by omega), if_pos h] at ha
    exact Ex.inR_iff.1 ha
theorem kindIn {ss : List StepD} {k : Nat} (hp : pFault ss = 0) (hk : k < ss.length) : 1 ≤ (PJ ss k).kind ∧ (PJ ss k).kind ≤ 8 := by
  have h := (of_one (first_all (of_p hp).2.1 hk)).1
  unfold formOk at h
  simp only [Bool.and_eq_true] at h
  exact Ex.inR_iff.1 h.1
set_option maxRecDepth 100000 in
set_option maxHeartbeats 32000000 in
theorem enterStep (wg : World) (P : Pos) (v : Value) (ss : List StepD) (f : Nat) (hp : pFault ss = 0) (hE : EnterAt wg P v ss f) (hO : OverAt wg P v ss f) : EnterAt wg P v ss (f + 1) := by
  intro k s w hk hm hok h
  have hl : ss.length ≤ 24 := by have := (of_p hp).1; omega
  obtain ⟨a, cap, rfl⟩ := h.st.slice
  have c0 := h.c0
  by_cases hst : s.status = 1
  · have b0 : (s.status != 1) = false := by simp [hst]
    have HV : Hid (go ss (f + 1) false k s = beginG (go ss f false) (go ss f true) ss k (Kc.act s k 1)) := hid (by rw [Kc.go_enter, if_pos hst])
    have m3 := h.c3
    have mA := h.ra.cell hk
    have fA := h.ra.free k
    have q0 : (k : Int) < (ss.length : Int) := by omega
    obtain ⟨wA, eA⟩ : ∃ wA, wA = w.setCell ⟨P.A, k, none⟩ (.int .i64 1) := ⟨_, rfl⟩
    have hSA := h.setA hk 1
    rw [← eA] at hSA
    have HRA : Hid (Ride P w wA) := hid (by rw [eA]; exact Ride.set _ _ _ _ (by simp))
    have HKD := hid (specKids 0 ss _ k wA (by omega) hSA.proc)
    have HSA := hid hSA
    have HOK : Hid (Ok (Kc.act s k 1)) := hid (hok.act k 1)
    have HP := hid hp
    have HE := hid hE
    have HO := hid hO
    have hlen : (kidsL ss k).length ≤ 24 := by have := kidsN_le ss ss.length k; unfold kidsL; omega
    have HMK : Hid (∀ j ∈ kidsL ss k, j < ss.length ∧ mE ss j ≤ f) := hid (fun j hj => ⟨(kid_lt hp hj).2, by have := Kc.m_kid hp hj; omega⟩)
    have HMO : Hid (mO ss k ≤ f) := hid (by have := Kc.m_over hp hk; omega)
    have HKI := hid (kindIn hp hk)
    rw [PJ_eq hk] at HKI
    clear h hSA hst hok hE hO hm hp
    generalize Kc.act s k 1 = s1 at *
    go_enter Tryz.func35, Tryz.ntmps35
    go_wp2_with fail
    rw [← eA]
    clear eA c0 m3 mA fA
    refine HKD.out.mono ?_
    rintro e w2 ⟨⟨u, rfl, ho⟩, hb2⟩
    obtain ⟨au, cu, rfl⟩ := own_slice ho
    have HKS := hid ho
    have hS2 := HSA.out.below hb2
    obtain ⟨g, o, vc, ve, e1, hg, p0, p1, p2, p3, p4, p5, hcn, hen⟩ := hS2.st.at hk
    cases e1
    obtain ⟨ax, cx, rfl⟩ := hen.slice
    have HEN := hid hen
    have P5 := hid p5
    have r0 := (hS2.bel.cell (p := ⟨g, o + k * 6, none⟩) hg).trans p0
    have r3 := (hS2.bel.cell (p := ⟨g, o + k * 6 + 3, none⟩) hg).trans p3
    have HS2 := hid hS2
    have HR2 := hid (HRA.out.trans (Ride.of_below hb2))
    have hlts := HSA.out.lts
    have HNE : Hid (∀ bk, wA.heap.size ≤ bk → bk ≠ P.R ∧ bk ≠ P.A ∧ bk ≠ P.D ∧ bk ≠ P.V) := hid (fun bk hbk => by omega)
    clear ho hb2 hS2 p0 p1 p2 p3 p4 p5 hcn hen HKD HSA HRA hlts
    have hc8 : ss[k].kind = 1 ∨ ss[k].kind = 2 ∨ ss[k].kind = 3 ∨ ss[k].kind = 4 ∨ ss[k].kind = 5 ∨ ss[k].kind = 6 ∨ ss[k].kind = 7 ∨ ss[k].kind = 8 := by have := HKI.out; omega
    clear HKI
    rcases hc8 with hkd | hkd | hkd | hkd | hkd | hkd | hkd | hkd
    · -- a sequence
      have hpk : (PJ ss k).kind = 1 := by rw [PJ_eq hk]; exact hkd
      have h1 := Kc.kids_seq HP.out hk hpk
      have HX := hid (HV.out.trans (bg1 hpk))
      obtain ⟨bk, cap', e, hbk, _, hcell⟩ := kids_at HKS.out (by omega)
      cases e
      have c1 := hcell 0 (by omega)
      rw [← kid_ix (by omega)] at c1
      have hj := HMK.out _ (kid_in (ss := ss) (k := k) (i := 0) (by omega))
      have q1 : (0 : Int) < ((kidsL ss k).length : Int) := by omega
      have HC := hid (HE.out (kid ss k 0) s1 w2 hj.1 hj.2 HOK.out HS2.out)
      rw [hkd] at r0
      clear hcell hkd hpk h1 hj
      generalize kid ss k 0 = k0 at *
      go_wp2_with fail
      refine HC.out.mono ?_
      rintro e w3 hT
      obtain rfl := hT.1
      have HT := hid hT
      clear hT
      go_wp2
      go_end0
      exact HT.out.of HR2.out HX.out
    · -- a task
      have hpk : (PJ ss k).kind = 2 := by rw [PJ_eq hk]; exact hkd
      have HX := hid (HV.out.trans (bg0 (.inl hpk)))
      rw [hkd] at r0
      clear hkd hpk
      go_wp2
      go_end0
      exact ⟨rfl, by rw [HX.out]; exact HS2.out, HR2.out⟩
    · -- a choice
      have hpk : (PJ ss k).kind = 3 := by rw [PJ_eq hk]; exact hkd
      have HX := hid (HV.out.trans (bg3 hpk))
      have HCH := hid (specChoose wg w2 P _ ss s1 k HP.out HOK.out.vars HS2.out)
      rw [hkd] at r0
      clear hkd hpk
      cases hpi : pick ss s1.vars (kidsL ss k) with
      | none =>
        rw [hpi] at HX HCH
        clear hpi
        go_wp2_with fail
        refine HCH.out.mono ?_
        rintro e w3 ⟨rfl, hb3⟩
        have HEN2 := hid (specEnd wg w3 P _ ss s1 3 hl (HS2.out.below hb3))
        have HR3 := hid (HR2.out.trans (Ride.of_below hb3))
        clear hb3
        go_wp2_with (first | (go_at_call 65; refine HEN2.out.mono ?_; rintro e w4 hT; obtain rfl := hT.1; have HT := hid hT; clear hT))
        first
          | go_end0
          | refine bodyPost_ret (results_none Tryz.results35 _ _ _) rfl ?_
        exact HT.out.of HR3.out HX.out
      | some j =>
        rw [hpi] at HX HCH
        have hj := HMK.out _ (Kc.pick_mem hpi)
        clear hpi
        go_wp2_with fail
        refine HCH.out.mono ?_
        rintro e w3 ⟨rfl, hb3⟩
        have HC := hid (HE.out j s1 w3 hj.1 hj.2 HOK.out (HS2.out.below hb3))
        have HR3 := hid (HR2.out.trans (Ride.of_below hb3))
        have q1 : ¬ (j : Int) < 0 := by omega
        clear hb3
        unfold optI
        go_wp2_with (go_at_call 35; refine HC.out.mono ?_; rintro e w4 hT; obtain rfl := hT.1; have HT := hid hT; clear hT)
        go_end0
        exact HT.out.of HR3.out HX.out
    · -- sides
      have hpk : (PJ ss k).kind = 4 := by rw [PJ_eq hk]; exact hkd
      have HX := hid (HV.out.trans (bg4 hpk))
      rw [hkd] at r0
      clear hkd hpk
      go_wp2
      clear r0
      have HGO := hid (fun j s (hs : Ok s) => Kc.go_ok ss f false j s hs)
      go_loopw [7] (fun x wr => ∃ (i : Nat) (si : CS), x = .int .i64 i ∧ i ≤ (kidsL ss k).length ∧ Hid (Ok si) ∧ Hid (SAt wg wr P (.slice (some ⟨g, o, none⟩) ss.length cap) ss si) ∧ Hid (Ride P w2 wr) ∧ Hid ((kidsL ss k).foldl (fun s j => go ss f false j s) s1 = ((kidsL ss k).drop i).foldl (fun s j => go ss f false j s) si)) (fun x _ => (kidsL ss k).length - (intOf x).toNat)
      case atStart => exact ⟨0, s1, rfl, Nat.zero_le _, HOK, HS2, hid (Ride.refl _ _), hid (by rw [List.drop_zero])⟩
      case round =>
        obtain ⟨i, si, rfl, hi, HOI, HSI, HRI, HFI⟩ := hrel
        by_cases hlt : i < (kidsL ss k).length
        · obtain ⟨bk, cap', e, hbk, hBk, hcell⟩ := kids_at HKS.out (by omega)
          cases e
          have c1 := HRI.out.cell (wg := wg) (v := .slice (some ⟨g, o, none⟩) ss.length cap) (ss := ss) (s := s1) hbk (HNE.out bk hBk) (hcell i hlt)
          have hj := HMK.out _ (List.getElem_mem hlt)
          have q1 : (i : Int) < ((kidsL ss k).length : Int) := by omega
          have HC := hid (HE.out _ si wr hj.1 hj.2 HOI.out HSI.out)
          have HF2 : Hid ((kidsL ss k).foldl (fun s j => go ss f false j s) s1 = ((kidsL ss k).drop (i + 1)).foldl (fun s j => go ss f false j s) (go ss f false (kidsL ss k)[i] si)) := hid (by rw [HFI.out, List.drop_eq_getElem_cons hlt, List.foldl_cons])
          have HO2 := hid (HGO.out (kidsL ss k)[i] si HOI.out)
          clear hcell hj HFI
          generalize (kidsL ss k)[i] = x at *
          go_wp2_with fail
          refine HC.out.mono ?_
          rintro e w4 hT
          obtain rfl := hT.1
          have HT := hid hT
          clear hT
          go_wp2
          exact ⟨⟨i + 1, _, by simp, by omega, HO2, hid HT.out.2.1, hid (HRI.out.trans HT.out.2.2), HF2⟩, by simp [intOf]; omega⟩
        · have q1 : ¬ (i : Int) < ((kidsL ss k).length : Int) := by omega
          have HF2 : Hid (go ss (f + 1) false k s = si) := hid (by rw [HX.out, HFI.out, List.drop_eq_nil_of_le (by omega)]; rfl)
          clear HFI
          go_wp2
          go_end0
          exact ⟨rfl, by rw [HF2.out]; exact HSI.out, HR2.out.trans HRI.out⟩
    · -- a wait
      have hpk : (PJ ss k).kind = 5 := by rw [PJ_eq hk]; exact hkd
      have HX := hid (HV.out.trans (bg0 (.inr hpk)))
      rw [hkd] at r0
      clear hkd hpk
      go_wp2
      go_end0
      exact ⟨rfl, by rw [HX.out]; exact HS2.out, HR2.out⟩
    · -- a timer
      have hpk : (PJ ss k).kind = 6 := by rw [PJ_eq hk]; exact hkd
      have HX := hid (HV.out.trans (bg6 hpk))
      have harg := arg_in HP.out hk (.inl hpk)
      rw [PJ_eq hk] at HX harg
      have hn1 := HOK.out.lo
      have hn2 := HOK.out.hi
      have t1 := HS2.out.c1
      have t4 := HS2.out.c4
      have mD := HS2.out.rd.cell hk
      have fD := HS2.out.rd.free k
      rw [hkd] at r0
      have HSD := hid ((HS2.out.setD hk (s1.now + ss[k].arg)).below (Below.refl _ _).drew)
      have HRD : Hid (Ride P w2 (w2.setCell ⟨P.D, k, none⟩ (.int .i64 (s1.now + ss[k].arg))).drew) := hid ((Ride.set _ _ _ _ (by simp)).trans (Ride.of_below (Below.refl _ _).drew))
      clear hkd hpk
      go_wp2
      go_region
      go_wp2
      go_end0
      exact ⟨rfl, by rw [HX.out]; exact HSD.out, HR2.out.trans HRD.out⟩
    · -- a set
      have hpk : (PJ ss k).kind = 7 := by rw [PJ_eq hk]; exact hkd
      have HX := hid (HV.out.trans (bg7 hpk))
      have harg := arg_set HP.out hk hpk
      have hex := expr_ok HP.out hk hpk
      rw [PJ_eq hk] at HX harg hex
      rw [hkd] at r0
      obtain ⟨hh0, h16, hok'⟩ := Ex.of_e (Ex.of_type hex.1)
      have HS2d := hid (HS2.out.below (Below.refl _ w2).drew)
      have HR2d := hid (HR2.out.trans (Ride.of_below (Below.refl _ w2).drew))
      have HLD : Hid (w2.drew.cell? ⟨g, o + k * 6 + 5, none⟩ = some (.slice ax ss[k].expr.length cx) ∧ w2.drew.cell? ⟨P.R, 2, none⟩ = some (.slice (some ⟨P.V, 0, none⟩) 4 P.cv)) := hid ⟨(HS2d.out.bel.cell (p := ⟨g, o + k * 6 + 5, none⟩) hg).trans P5.out, HS2d.out.c2⟩
      have HEV := hid (Ex.specEval 0 0 ss[k].expr s1.vars _ _ w2.drew hh0 h16 hok' HOK.out.vars (HEN.out.below HS2d.out.bel) HS2d.out.vars)
      have HVO := hid (Ex.ev_ok hex.1 HOK.out.vars)
      have HVB := hid (Ex.ev_bad hex.1 HOK.out.vars)
      clear hkd hpk hh0 h16 hok' hex
      cases hoe : Ex.evOk ss[k].expr s1.vars
      · have HX2 : Hid (go ss (f + 1) false k s = stopped s1 3) := hid (by rw [HX.out, if_neg (by rw [(HVB.out hoe).1]; decide)])
        rw [hoe] at HEV
        clear hoe HVO HVB HX
        go_wp2
        refine wp_region_held_drew (S := fun wx => wx.cell? ⟨g, o + k * 6 + 5, none⟩ = some (.slice ax ss[k].expr.length cx) ∧ wx.cell? ⟨P.R, 2, none⟩ = some (.slice (some ⟨P.V, 0, none⟩) 4 P.cv)) (by kernel_rfl) HLD.out (fun hHeld => ?_)
        refine wpAnyH_take (i := 0) (v := .slice (some ⟨g, o, none⟩) ss.length cap) rfl (by kernel_rfl) (by kernel_rfl) (by kernel_rfl) (fun _ _ _ h => h) (Or.inl ⟨by rfl, by intro w hSw; (try dsimp only at hSw); go_simp⟩) (by assumption) ?_
        simp only [Act.put, List.setIfInBounds_toArray, List.set_cons_zero, List.set_cons_succ]
        refine wpAnyH_take (i := 1) (v := .int .i64 (k : Int)) rfl (by kernel_rfl) (by kernel_rfl) (by kernel_rfl) (fun _ _ _ h => h) (Or.inl ⟨by rfl, by intro w hSw; (try dsimp only at hSw); go_simp⟩) (by assumption) ?_
        simp only [Act.put, List.setIfInBounds_toArray, List.set_cons_zero, List.set_cons_succ]
        refine wpAnyH_take (i := 2) (v := .pointer (some ⟨g, o + k * 6, none⟩)) rfl (by kernel_rfl) (by kernel_rfl) (by kernel_rfl) (fun _ _ _ h => h) (Or.inl ⟨by rfl, by intro w hSw; (try dsimp only at hSw); go_simp⟩) (by assumption) ?_
        simp only [Act.put, List.setIfInBounds_toArray, List.set_cons_zero, List.set_cons_succ]
        refine wpAnyH_take (i := 3) (v := .pointer (some ⟨g, o + k * 6 + 5, none⟩)) rfl (by kernel_rfl) (by kernel_rfl) (by kernel_rfl) (fun _ _ _ h => h) (Or.inl ⟨by rfl, by intro w hSw; (try dsimp only at hSw); go_simp⟩) (by assumption) ?_
        simp only [Act.put, List.setIfInBounds_toArray, List.set_cons_zero, List.set_cons_succ]
        refine wpAnyH_take (i := 4) (v := .slice ax ss[k].expr.length cx) rfl (by kernel_rfl) (by kernel_rfl) (by kernel_rfl) (fun _ _ _ h => h) (Or.inl ⟨by rfl, by intro w hSw; (try dsimp only at hSw); have s1 := hSw.1; have s2 := hSw.2; clear hSw; go_simp⟩) (by assumption) ?_
        simp only [Act.put, List.setIfInBounds_toArray, List.set_cons_zero, List.set_cons_succ]
        refine wpAnyH_take (i := 5) (v := .pointer (some ⟨P.R, 0, none⟩)) rfl (by kernel_rfl) (by kernel_rfl) (by kernel_rfl) (fun _ _ _ h => h) (Or.inl ⟨by rfl, by intro w hSw; (try dsimp only at hSw); go_simp⟩) (by assumption) ?_
        simp only [Act.put, List.setIfInBounds_toArray, List.set_cons_zero, List.set_cons_succ]
        refine wpAnyH_take (i := 6) (v := .pointer (some ⟨P.R, 0, none⟩)) rfl (by kernel_rfl) (by kernel_rfl) (by kernel_rfl) (fun _ _ _ h => h) (Or.inl ⟨by rfl, by intro w hSw; (try dsimp only at hSw); go_simp⟩) (by assumption) ?_
        simp only [Act.put, List.setIfInBounds_toArray, List.set_cons_zero, List.set_cons_succ]
        refine wpAnyH_take (i := 7) (v := .pointer (some ⟨P.R, 2, none⟩)) rfl (by kernel_rfl) (by kernel_rfl) (by kernel_rfl) (fun _ _ _ h => h) (Or.inl ⟨by rfl, by intro w hSw; (try dsimp only at hSw); go_simp⟩) (by assumption) ?_
        simp only [Act.put, List.setIfInBounds_toArray, List.set_cons_zero, List.set_cons_succ]
        refine wpAnyH_take (i := 8) (v := .slice (some ⟨P.V, 0, none⟩) 4 P.cv) rfl (by kernel_rfl) (by kernel_rfl) (by kernel_rfl) (fun _ _ _ h => h) (Or.inl ⟨by rfl, by intro w hSw; (try dsimp only at hSw); have s1 := hSw.1; have s2 := hSw.2; clear hSw; go_simp⟩) (by assumption) ?_
        simp only [Act.put, List.setIfInBounds_toArray, List.set_cons_zero, List.set_cons_succ]
        refine wpAnyH_ready (rs := [9]) (by kernel_rfl) (by simp) ?_
        refine AllReadyH.cons rfl (fun K hK => ?_) AllReadyH.nil
        go_simp
        go_at_call 66
        refine HEV.out.mono ?_
        rintro e w3 ⟨⟨y, rfl, hy⟩, hb3⟩
        have hS3 := HS2d.out.below hb3
        have HS3 := hid hS3
        have HR3 := hid (HR2d.out.trans (Ride.of_below hb3))
        have HLD3 : Hid (w3.cell? ⟨g, o + k * 6 + 5, none⟩ = some (.slice ax ss[k].expr.length cx) ∧ w3.cell? ⟨P.R, 2, none⟩ = some (.slice (some ⟨P.V, 0, none⟩) 4 P.cv)) := hid ⟨(hS3.bel.cell (p := ⟨g, o + k * 6 + 5, none⟩) hg).trans P5.out, hS3.c2⟩
        clear hS3 hb3
        go_wp2_with fail
        refine hK.out _ _ HLD3.out (fun hHeld => ?_)
        clear hK K
        try simp only [Act.put, List.setIfInBounds_toArray, List.set_cons_zero, List.set_cons_succ]
        refine wpAnyH_take (i := 10) (v := .tuple #[.int .i64 y, .bool false]) rfl (by kernel_rfl) (by kernel_rfl) (by kernel_rfl) (fun _ _ _ h => h) (Or.inl ⟨by rfl, by intro w hSw; (try dsimp only at hSw); go_simp⟩) (by assumption) ?_
        simp only [Act.put, List.setIfInBounds_toArray, List.set_cons_zero, List.set_cons_succ]
        refine wpAnyH_take (i := 11) (v := .int .i64 y) rfl (by kernel_rfl) (by kernel_rfl) (by kernel_rfl) (fun _ _ _ h => h) (Or.inl ⟨by rfl, by intro w hSw; (try dsimp only at hSw); go_simp⟩) (by assumption) ?_
        simp only [Act.put, List.setIfInBounds_toArray, List.set_cons_zero, List.set_cons_succ]
        refine wpAnyH_take (i := 12) (v := .bool false) rfl (by kernel_rfl) (by kernel_rfl) (by kernel_rfl) (fun _ _ _ h => h) (Or.inl ⟨by rfl, by intro w hSw; (try dsimp only at hSw); go_simp⟩) (by assumption) ?_
        simp only [Act.put, List.setIfInBounds_toArray, List.set_cons_zero, List.set_cons_succ]
        refine wpAnyH_take (i := 13) (v := .int .i64 y) rfl (by kernel_rfl) (by kernel_rfl) (by kernel_rfl) (fun _ _ _ h => h) (Or.inl ⟨by rfl, by intro w hSw; (try dsimp only at hSw); go_simp⟩) (by assumption) ?_
        simp only [Act.put, List.setIfInBounds_toArray, List.set_cons_zero, List.set_cons_succ]
        refine wpAnyH_take (i := 14) (v := .bool false) rfl (by kernel_rfl) (by kernel_rfl) (by kernel_rfl) (fun _ _ _ h => h) (Or.inl ⟨by rfl, by intro w hSw; (try dsimp only at hSw); go_simp⟩) (by assumption) ?_
        simp only [Act.put, List.setIfInBounds_toArray, List.set_cons_zero, List.set_cons_succ]
        refine wpAnyH_done (by kernel_rfl) ?_ _
        clear hHeld
        have HEN2 := hid (specEnd wg w3 P _ ss s1 3 hl HS3.out)
        go_wp2_with (go_at_call 65; refine HEN2.out.mono ?_; rintro e w4 hT; obtain rfl := hT.1; have HT := hid hT; clear hT)
        first
          | go_end0
          | refine bodyPost_ret (results_none Tryz.results35 _ _ _) rfl ?_
        exact HT.out.of HR3.out HX2.out
      · have hev := HVO.out hoe
        have HX2 : Hid (go ss (f + 1) false k s = go ss f true k (Kc.setV s1 ss[k].arg.toNat (evalVal ss[k].expr s1.vars))) := hid (by rw [HX.out, if_pos hev.1])
        have HY : Hid (∀ y, (Ex.evOk ss[k].expr s1.vars = true → y = (Ex.evs ss[k].expr s1.vars ss[k].expr.length).getD (ss[k].expr.length - 1) 0) → y = evalVal ss[k].expr s1.vars) := hid (fun y hy => by rw [hev.2]; exact hy hoe)
        have HIN := hid (Kc.eval_in hev.1)
        rw [hoe] at HEV HY
        obtain ⟨na, hna⟩ : ∃ na : Nat, ss[k].arg = (na : Int) := ⟨ss[k].arg.toNat, by omega⟩
        rw [hna, Int.toNat_natCast] at HX2
        have hna4 : na < 4 := by omega
        rw [hna] at r3
        clear hoe HVO HVB HX hev hna harg
        generalize evalVal ss[k].expr s1.vars = ev at *
        go_wp2
        refine wp_region_held_drew (S := fun wx => wx.cell? ⟨g, o + k * 6 + 5, none⟩ = some (.slice ax ss[k].expr.length cx) ∧ wx.cell? ⟨P.R, 2, none⟩ = some (.slice (some ⟨P.V, 0, none⟩) 4 P.cv)) (by kernel_rfl) HLD.out (fun hHeld => ?_)
        refine wpAnyH_take (i := 0) (v := .slice (some ⟨g, o, none⟩) ss.length cap) rfl (by kernel_rfl) (by kernel_rfl) (by kernel_rfl) (fun _ _ _ h => h) (Or.inl ⟨by rfl, by intro w hSw; (try dsimp only at hSw); go_simp⟩) (by assumption) ?_
        simp only [Act.put, List.setIfInBounds_toArray, List.set_cons_zero, List.set_cons_succ]
        refine wpAnyH_take (i := 1) (v := .int .i64 (k : Int)) rfl (by kernel_rfl) (by kernel_rfl) (by kernel_rfl) (fun _ _ _ h => h) (Or.inl ⟨by rfl, by intro w hSw; (try dsimp only at hSw); go_simp⟩) (by assumption) ?_
        simp only [Act.put, List.setIfInBounds_toArray, List.set_cons_zero, List.set_cons_succ]
        refine wpAnyH_take (i := 2) (v := .pointer (some ⟨g, o + k * 6, none⟩)) rfl (by kernel_rfl) (by kernel_rfl) (by kernel_rfl) (fun _ _ _ h => h) (Or.inl ⟨by rfl, by intro w hSw; (try dsimp only at hSw); go_simp⟩) (by assumption) ?_
        simp only [Act.put, List.setIfInBounds_toArray, List.set_cons_zero, List.set_cons_succ]
        refine wpAnyH_take (i := 3) (v := .pointer (some ⟨g, o + k * 6 + 5, none⟩)) rfl (by kernel_rfl) (by kernel_rfl) (by kernel_rfl) (fun _ _ _ h => h) (Or.inl ⟨by rfl, by intro w hSw; (try dsimp only at hSw); go_simp⟩) (by assumption) ?_
        simp only [Act.put, List.setIfInBounds_toArray, List.set_cons_zero, List.set_cons_succ]
        refine wpAnyH_take (i := 4) (v := .slice ax ss[k].expr.length cx) rfl (by kernel_rfl) (by kernel_rfl) (by kernel_rfl) (fun _ _ _ h => h) (Or.inl ⟨by rfl, by intro w hSw; (try dsimp only at hSw); have s1 := hSw.1; have s2 := hSw.2; clear hSw; go_simp⟩) (by assumption) ?_
        simp only [Act.put, List.setIfInBounds_toArray, List.set_cons_zero, List.set_cons_succ]
        refine wpAnyH_take (i := 5) (v := .pointer (some ⟨P.R, 0, none⟩)) rfl (by kernel_rfl) (by kernel_rfl) (by kernel_rfl) (fun _ _ _ h => h) (Or.inl ⟨by rfl, by intro w hSw; (try dsimp only at hSw); go_simp⟩) (by assumption) ?_
        simp only [Act.put, List.setIfInBounds_toArray, List.set_cons_zero, List.set_cons_succ]
        refine wpAnyH_take (i := 6) (v := .pointer (some ⟨P.R, 0, none⟩)) rfl (by kernel_rfl) (by kernel_rfl) (by kernel_rfl) (fun _ _ _ h => h) (Or.inl ⟨by rfl, by intro w hSw; (try dsimp only at hSw); go_simp⟩) (by assumption) ?_
        simp only [Act.put, List.setIfInBounds_toArray, List.set_cons_zero, List.set_cons_succ]
        refine wpAnyH_take (i := 7) (v := .pointer (some ⟨P.R, 2, none⟩)) rfl (by kernel_rfl) (by kernel_rfl) (by kernel_rfl) (fun _ _ _ h => h) (Or.inl ⟨by rfl, by intro w hSw; (try dsimp only at hSw); go_simp⟩) (by assumption) ?_
        simp only [Act.put, List.setIfInBounds_toArray, List.set_cons_zero, List.set_cons_succ]
        refine wpAnyH_take (i := 8) (v := .slice (some ⟨P.V, 0, none⟩) 4 P.cv) rfl (by kernel_rfl) (by kernel_rfl) (by kernel_rfl) (fun _ _ _ h => h) (Or.inl ⟨by rfl, by intro w hSw; (try dsimp only at hSw); have s1 := hSw.1; have s2 := hSw.2; clear hSw; go_simp⟩) (by assumption) ?_
        simp only [Act.put, List.setIfInBounds_toArray, List.set_cons_zero, List.set_cons_succ]
        refine wpAnyH_ready (rs := [9]) (by kernel_rfl) (by simp) ?_
        refine AllReadyH.cons rfl (fun K hK => ?_) AllReadyH.nil
        go_simp
        go_at_call 66
        refine HEV.out.mono ?_
        rintro e w3 ⟨⟨y, rfl, hy⟩, hb3⟩
        have hS3 := HS2d.out.below hb3
        have HS3 := hid hS3
        have HR3 := hid (HR2d.out.trans (Ride.of_below hb3))
        have HLD3 : Hid (w3.cell? ⟨g, o + k * 6 + 5, none⟩ = some (.slice ax ss[k].expr.length cx) ∧ w3.cell? ⟨P.R, 2, none⟩ = some (.slice (some ⟨P.V, 0, none⟩) 4 P.cv)) := hid ⟨(hS3.bel.cell (p := ⟨g, o + k * 6 + 5, none⟩) hg).trans P5.out, hS3.c2⟩
        clear hS3 hb3
        go_wp2_with fail
        refine hK.out _ _ HLD3.out (fun hHeld => ?_)
        clear hK K
        try simp only [Act.put, List.setIfInBounds_toArray, List.set_cons_zero, List.set_cons_succ]
        refine wpAnyH_take (i := 10) (v := .tuple #[.int .i64 y, .bool true]) rfl (by kernel_rfl) (by kernel_rfl) (by kernel_rfl) (fun _ _ _ h => h) (Or.inl ⟨by rfl, by intro w hSw; (try dsimp only at hSw); go_simp⟩) (by assumption) ?_
        simp only [Act.put, List.setIfInBounds_toArray, List.set_cons_zero, List.set_cons_succ]
        refine wpAnyH_take (i := 11) (v := .int .i64 y) rfl (by kernel_rfl) (by kernel_rfl) (by kernel_rfl) (fun _ _ _ h => h) (Or.inl ⟨by rfl, by intro w hSw; (try dsimp only at hSw); go_simp⟩) (by assumption) ?_
        simp only [Act.put, List.setIfInBounds_toArray, List.set_cons_zero, List.set_cons_succ]
        refine wpAnyH_take (i := 12) (v := .bool true) rfl (by kernel_rfl) (by kernel_rfl) (by kernel_rfl) (fun _ _ _ h => h) (Or.inl ⟨by rfl, by intro w hSw; (try dsimp only at hSw); go_simp⟩) (by assumption) ?_
        simp only [Act.put, List.setIfInBounds_toArray, List.set_cons_zero, List.set_cons_succ]
        refine wpAnyH_take (i := 13) (v := .int .i64 y) rfl (by kernel_rfl) (by kernel_rfl) (by kernel_rfl) (fun _ _ _ h => h) (Or.inl ⟨by rfl, by intro w hSw; (try dsimp only at hSw); go_simp⟩) (by assumption) ?_
        simp only [Act.put, List.setIfInBounds_toArray, List.set_cons_zero, List.set_cons_succ]
        refine wpAnyH_take (i := 14) (v := .bool true) rfl (by kernel_rfl) (by kernel_rfl) (by kernel_rfl) (fun _ _ _ h => h) (Or.inl ⟨by rfl, by intro w hSw; (try dsimp only at hSw); go_simp⟩) (by assumption) ?_
        simp only [Act.put, List.setIfInBounds_toArray, List.set_cons_zero, List.set_cons_succ]
        refine wpAnyH_done (by kernel_rfl) ?_ _
        clear hHeld
        obtain rfl := HY.out y hy
        have t2 := HS3.out.c2
        have t3 : w3.cell? ⟨g, o + k * 6 + 3, none⟩ = some (.int .i64 (na : Int)) := (HS3.out.bel.cell (p := ⟨g, o + k * 6 + 3, none⟩) hg).trans ((HS2.out.bel.cell (p := ⟨g, o + k * 6 + 3, none⟩) hg).symm.trans r3)
        have mV := HS3.out.rv.cell hna4
        have fV := HS3.out.rv.free na
        obtain ⟨w5, e5⟩ : ∃ w5, w5 = (w3.setCell ⟨P.V, na, none⟩ (.int .i64 y)).drew := ⟨_, rfl⟩
        have HSV := hid ((HS3.out.setV hna4 y).below (Below.refl _ _).drew)
        rw [← e5] at HSV
        have HRV : Hid (Ride P w3 w5) := hid (by rw [e5]; exact (Ride.set _ _ _ _ (by simp)).trans (Ride.of_below (Below.refl _ _).drew))
        have HOV := hid (HO.out k _ w5 hk HMO.out (HOK.out.setV na HIN.out) HSV.out)
        have E5 := hid e5
        have q7 : (na : Int) < 4 := by omega
        clear hy e5 HSV
        go_wp2
        go_region
        rw [← E5.out]
        go_wp2_with (go_at_call 50; refine HOV.out.mono ?_; rintro e w6 hT; obtain rfl := hT.1; have HT := hid hT; clear hT)
        go_end0
        exact HT.out.of (HR3.out.trans HRV.out) HX2.out
    · -- a guard
      have hpk : (PJ ss k).kind = 8 := by rw [PJ_eq hk]; exact hkd
      have h2 := Kc.kids_guard HP.out hk hpk
      have HX := hid (HV.out.trans (bg8 hpk))
      have harg := arg_in HP.out hk (.inr hpk)
      rw [PJ_eq hk] at HX harg
      have hn1 := HOK.out.lo
      have hn2 := HOK.out.hi
      have t1 := HS2.out.c1
      have t4 := HS2.out.c4
      have mD := HS2.out.rd.cell hk
      have fD := HS2.out.rd.free k
      obtain ⟨bk, cap', e, hbk, hBk, hcell⟩ := kids_at HKS.out (by omega)
      cases e
      obtain ⟨w5, e5⟩ : ∃ w5, w5 = (w2.setCell ⟨P.D, k, none⟩ (.int .i64 (s1.now + ss[k].arg))).drew := ⟨_, rfl⟩
      have HSD := hid ((HS2.out.setD hk (s1.now + ss[k].arg)).below (Below.refl _ _).drew)
      rw [← e5] at HSD
      have HRD : Hid (Ride P w2 w5) := hid (by rw [e5]; exact (Ride.set _ _ _ _ (by simp)).trans (Ride.of_below (Below.refl _ _).drew))
      have c1 := HRD.out.cell (wg := wg) (v := .slice (some ⟨g, o, none⟩) ss.length cap) (ss := ss) (s := s1) hbk (HNE.out bk hBk) (hcell 0 (by omega))
      rw [← kid_ix (by omega)] at c1
      have hj := HMK.out _ (kid_in (ss := ss) (k := k) (i := 0) (by omega))
      have q1 : (0 : Int) < ((kidsL ss k).length : Int) := by omega
      have HC := hid (HE.out (kid ss k 0) _ w5 hj.1 hj.2 (HOK.out.due k (s1.now + ss[k].arg)) HSD.out)
      have E5 := hid e5
      rw [hkd] at r0
      clear hcell hkd hpk h2 hj e5
      generalize kid ss k 0 = k0 at *
      go_wp2
      go_region
      rw [← E5.out]
      go_wp2_with (go_at_call 35; refine HC.out.mono ?_; rintro e w4 hT; obtain rfl := hT.1; have HT := hid hT; clear hT)
      go_end0
      exact HT.out.of (HR2.out.trans HRD.out) HX.out
  · have b0 : (s.status != 1) = true := bne_iff_ne.2 hst
    have HV : Hid (go ss (f + 1) false k s = s) := hid (by rw [Kc.go_enter, if_neg hst])
    have HS := hid h
    clear h hst
    go_enter Tryz.func35, Tryz.ntmps35
    go_wp2
    first
      | go_end0
      | refine bodyPost_ret (results_none Tryz.results35 _ _ _) rfl ?_
    exact ⟨rfl, by rw [HV.out]; exact HS.out, Ride.refl _ _⟩
end Kt
end Go.Proofs.YtpgbjpfpgbjbeaaGreatDoor
