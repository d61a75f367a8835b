/- StepsUnder, of the specification and of the program. Condition of the second: the table of rules lies as its initialiser lays it. -/
import Derived.Test.YtbojdlkibffcjaaDoorKuA
import Derived.Deep.RegionHeld3
namespace Go.Proofs.YtbojdlkibffcjaaDoor
open Go.RowKit
set_option linter.unusedVariables false
namespace Pf
open Ex (hid inR eFault specIn)
open Nd (NodeD)
open St (StepD)
open Tr (Chain cutTo onPath top nf ElemD)
open Pt (kidVals infoI64 info_parts)
open Ints (vals IntsAt)
set_option maxRecDepth 100000 in
set_option maxHeartbeats 8000000 in
theorem specStepsUnder (B : Nat) (ss : List StepD) (v : Value) (at' : Int) (w : World) (hsm : St.Small 1048576 ss) (ha : St.At w B v ss) :
    Calls Tryd.prog 5 #[v, .int .i64 at'] w (IPost (underC ss at') (underL ss at') w) := by
  obtain ⟨a, cap, rfl⟩ := ha.slice
  have hlen := hsm.1
  have hb0 : Below w.heap.size w (w.alloc (.cells #[.int .i64 0, .slice none 0 0] 26)) := (Below.refl _ w).alloc (Nat.le_refl _) _
  have HF := hid (specFault B ss _ _ hsm (ha.below hb0))
  have HI := hid (fun w' => specIn at' 0 ((ss.length : Int) - 1) w')
  have HA := hid ha
  clear ha hsm
  unfold IPost
  go_enter Tryd.func5, Tryd.ntmps5
  go_wp2_with fail
  refine HF.out.mono ?_
  rintro e w1 ⟨rfl, hb1⟩
  have B1 : Below w.heap.size w w1 := hb0.trans (hb1.mono (by simp))
  simp only [World.size_alloc] at hb1
  have l1 : w.heap.size < w1.heap.size := by have := hb1.size; simp at this; omega
  have r0 := kept_cell hb1 (b := w.heap.size) (o := 0) (v := .int .i64 0) (by omega) (by go_simp)
  have r1 := kept_cell hb1 (b := w.heap.size) (o := 1) (v := .slice none 0 0) (by omega) (by go_simp)
  have f0 := kept_free hb1 (b := w.heap.size) (o := 0) (by omega) (by go_simp)
  have f1 := kept_free hb1 (b := w.heap.size) (o := 1) (by omega) (by go_simp)
  clear HF
  by_cases hf : pFault ss = 0
  · have b1 : (pFault ss != 0) = false := by simp [hf]
    have HP := hid (of_p hf)
    have hl : ss.length ≤ 24 := by have := HP.out.1; omega
    by_cases hr : 0 ≤ at' ∧ at' < (ss.length : Int)
    · obtain ⟨k, rfl⟩ : ∃ k : Nat, at' = (k : Int) := ⟨at'.toNat, by omega⟩
      have hk : k < ss.length := by omega
      have e1 : inR (k : Int) 0 ((ss.length : Int) - 1) = true := Ex.inR_iff.2 (by omega)
      rw [e1] at HI
      have HV := hid (under_ok hf hk)
      have HKK := hid (specUnder B ss _ k w1 hl hk HP.out.2.1 (HA.out.below B1))
      clear e1 hr hf
      go_wp2_with (go_at_call 15; refine (HI.out _).mono ?_; rintro e w2 ⟨rfl, hw2⟩; replace hw2 := hw2.symm; subst hw2)
      refine HKK.out.mono ?_
      rintro e w2 ⟨⟨u, rfl, ho⟩, hb2⟩
      obtain ⟨x5, c5, rfl⟩ := Ints.owns_slice ho
      have HO := hid ho
      clear ho
      have B2 := B1.trans (hb2.mono B1.size)
      have l2 : w.heap.size < w2.heap.size := by have := hb2.size; omega
      have s0 := kept_cell hb2 (by omega) r0
      have s1 := kept_cell hb2 (by omega) r1
      have t0 := kept_free hb2 (by omega) f0
      have t1 := kept_free hb2 (by omega) f1
      go_wp2
      refine bodyPost_ret (v := .agg #[.int .i64 0, .slice x5 (underN ss k).length c5]) (by simp [results, Tryd.results5, go_sem, s0, s1]) rfl ⟨⟨_, retI HV.out.1.symm, ?_⟩, setB (setB B2 (Nat.le_refl _) _) (Nat.le_refl _) _⟩
      rw [HV.out.2, intsOf_len, ← kidVals_eq]
      exact own_set (own_set (own_mono HO.out (by omega)) (by omega)) (by omega)
    · have HV := hid (under_range hf hr)
      have e1 : inR at' 0 ((ss.length : Int) - 1) = false := Ex.inR_not.2 (by omega)
      rw [e1] at HI
      clear e1 hr hf
      go_wp2_with (go_at_call 15; refine (HI.out _).mono ?_; rintro e w2 ⟨rfl, hw2⟩; replace hw2 := hw2.symm; subst hw2)
      refine bodyPost_ret (v := .agg #[.int .i64 3, .slice none 0 0]) (by simp [results, Tryd.results5, go_sem, r0, r1]) rfl ⟨⟨_, retI HV.out.1.symm, ?_⟩, setB (setB B1 (Nat.le_refl _) _) (Nat.le_refl _) _⟩
      rw [HV.out.2]
      exact World.ownsRow_nil _ _ _ _
  · have HV := hid (under_fault (at' := at') hf)
    have b1 : (pFault ss != 0) = true := by simpa using hf
    clear hf HI
    go_wp2
    refine bodyPost_ret (v := .agg #[.int .i64 (pFault ss), .slice none 0 0]) (by simp [results, Tryd.results5, go_sem, r0, r1]) rfl ⟨⟨_, retI HV.out.1.symm, ?_⟩, setB (setB B1 (Nat.le_refl _) _) (Nat.le_refl _) _⟩
    rw [HV.out.2]
    exact World.ownsRow_nil _ _ _ _
theorem under_at (ss : List StepD) (k : Nat) : ∀ i (h : i < (underN ss k).length), (underN ss k)[i] = k + i := by
  obtain ⟨m, hm⟩ := under_range' ss k
  intro i hi
  simp only [hm, List.getElem_range']
  omega
theorem under_lt {ss : List StepD} {k : Nat} (hk : k < ss.length) {i : Nat} (h : i < (underN ss k).length) : k + i < ss.length := by
  have := (Kc.end_of hk).le
  unfold Kc.endOf at this
  omega
set_option maxRecDepth 100000 in
set_option maxHeartbeats 16000000 in
theorem implStepsUnder (ss : List StepD) (v : Value) (at' : Int) (w : World) (hsm : St.Small 1048576 ss) (ha : St.At w 0 v ss) (hr : Rul w) :
    Calls Tryd.prog 7 #[v, .int .i64 at'] w (IPost (underC ss at') (underL ss at') w) := by
  obtain ⟨a, cap, rfl⟩ := ha.slice
  have hb0 : Below w.heap.size w (w.alloc (.cells #[.int .i64 0, .slice none 0 0] 26)) := (Below.refl _ w).alloc (Nat.le_refl _) _
  have HF := hid (procStepsC ss _ _ hsm (ha.below hb0) (hr.below hb0 hr.lt))
  have hln := hsm.1
  clear ha hsm hr
  obtain ⟨j0, hj, hy0, hy1, hy2⟩ := info_parts infoI64
  unfold IPost
  go_enter Tryd.func7, Tryd.ntmps7
  go_wp2_with fail
  refine HF.out.mono ?_
  rintro e w1 ⟨⟨u, rfl, hu1, hu2⟩, hb1⟩
  have B1 : Below w.heap.size w w1 := hb0.trans (hb1.mono (by simp))
  simp only [World.size_alloc] at hb1
  have l1 : w.heap.size < w1.heap.size := by have := hb1.size; simp at this; omega
  have r0 := kept_cell hb1 (b := w.heap.size) (o := 0) (v := .int .i64 0) (by omega) (by go_simp)
  have r1 := kept_cell hb1 (b := w.heap.size) (o := 1) (v := .slice none 0 0) (by omega) (by go_simp)
  have f0 := kept_free hb1 (b := w.heap.size) (o := 0) (by omega) (by go_simp)
  have f1 := kept_free hb1 (b := w.heap.size) (o := 1) (by omega) (by go_simp)
  clear HF
  by_cases hf : pFault ss = 0
  · have b1 : (pFault ss != 0) = false := by simp [hf]
    have HP := hid (of_p hf)
    have hl : ss.length ≤ 24 := by have := HP.out.1; omega
    have hPA := (hu2 hf).1
    obtain ⟨gu, cu, rfl, _⟩ := hPA
    have HPA := hid (hu2 hf).1
    have HCAP := hid (hu2 hf).2
    have HHS := hid (fun w' => Ku.hasStep (some ⟨gu, 0, none⟩) ss.length cu at' w' (by omega))
    by_cases hr : 0 ≤ at' ∧ at' < (ss.length : Int)
    · obtain ⟨k, rfl⟩ : ∃ k : Nat, at' = (k : Int) := ⟨at'.toNat, by omega⟩
      have hk : k < ss.length := by omega
      have HV := hid (under_ok hf hk)
      have HWB := hid (Ku.withAllBelow ss gu cu k w1 hl hk HPA.out HCAP.out)
      rw [show (decide ((0 : Int) ≤ (k : Int)) && decide ((k : Int) < (ss.length : Int))) = true by simp; omega] at HHS
      have HUL : Hid (Kc.endOf ss k - k = (underN ss k).length) := hid (by unfold Kc.endOf; omega)
      have HAT := hid (under_at ss k)
      have HLT := hid (fun i => under_lt hk (i := i))
      have hul : (underN ss k).length ≤ 24 := by have := (Kc.end_of hk).le; unfold Kc.endOf at this; omega
      rw [HUL.out] at HWB
      clear hf hu1 hu2 hr
      generalize hus : underN ss k = us at *
      have HUS := hid hus
      clear hus
      go_wp2_with (first | (go_at_call 19; refine (HHS.out _).mono ?_; rintro e w2 ⟨rfl, hw2⟩; replace hw2 := hw2.symm; subst hw2) | (go_at_call 20; refine HWB.out.mono ?_; rintro e w2 ⟨rfl, hb2⟩; have HB2 := hid hb2; clear hb2))
      go_loopw [7, 9, 28] (fun o _ x wr => ∃ j : Nat, x = .int .i64 j ∧ j ≤ us.length ∧ (∃ a5 c5, o = .slice a5 (us.take j).length c5) ∧ Hid (wr.ownsRow w1.heap.size 2 1 o (us.take j).length (kidVals (us.take j))) ∧ Hid (Below w1.heap.size w1 wr)) (fun _ _ x _ => us.length - (intOf x).toNat)
      case atStart => exact ⟨0, rfl, Nat.zero_le _, ⟨_, _, rfl⟩, hid (World.ownsRow_nil _ _ _ 1), HB2⟩
      case round =>
        obtain ⟨j, rfl, hjl, ⟨a5, c5, rfl⟩, HO, HBR⟩ := hrel
        have hz := HBR.out.size
        by_cases hlt : j < us.length
        · have hkj := HLT.out j hlt
          have hP := HPA.out.below HBR.out
          obtain ⟨g', cap', e', hg, hc⟩ := hP
          cases e'
          obtain ⟨kv, vc, ve, d0, d1, d2, d3, d4, d5, d6, d7, d8, hpc⟩ := hc (k + j) hkj
          obtain ⟨ak, ck, rfl⟩ := hpc.kids.slice
          obtain ⟨ac, cc, rfl⟩ := hpc.cond.slice
          obtain ⟨ae, ce, rfl⟩ := hpc.expr.slice
          have eo : (k + j) * 9 = k * 9 + j * 9 := by omega
          rw [eo] at d0 d1 d2 d3 d4 d5 d6 d7 d8
          have q1 : (j : Int) < (us.length : Int) := by omega
          have HN : Hid (us.take (j + 1) = us.take j ++ [k + j]) := hid (by rw [List.take_succ_eq_append_getElem hlt, HAT.out j hlt])
          have hle : (us.take j).length ≤ 24 := by rw [List.length_take]; omega
          clear hc hpc eo
          have hown := HO.out
          generalize us.take j = ks at *
          generalize k + j = kj at *
          generalize (path ss (kj + 1)).length = dp at *
          go_wp2_with (at_builtin; go_must (refine wpList_append_own _ rfl _ _ 24 rfl w1.heap.size 2 j0 (.int .i64 0) 1 8 Tryd.underlying24 hj hy0 hy1 hy2 rfl (by decide) _ _ _ rfl ((hown.alloc _).alloc _) ⟨wr.heap.size + 1, 0, none⟩ 1 1 [.int .i64 (kj : Int)] rfl rfl (Pt.cell_one _ _ (by simp) _ _) (by simp [Value.oneCell']) (by unfold maxLen; omega) (by omega) (by simp; omega) ?_); intro v' w2 hown' hgrow _; obtain ⟨g9, c9, rfl⟩ := ownsRow_succ hown')
          have hB2 : Below w1.heap.size w1 w2 := ((HBR.out.alloc hz _).alloc (by simp; omega) _).grown hgrow (by simp; omega) (fun b e => (Pt.own_lt hown e).1)
          refine ⟨⟨j + 1, by simp, by omega, ⟨some ⟨g9, 0, none⟩, c9, by rw [HN.out, List.length_append]; rfl⟩, hid ?_, hid hB2⟩, by simp [intOf]; omega⟩
          rw [HN.out]
          simpa [kidVals] using hown'
        · have hje : us.take j = us := List.take_of_length_le (by omega)
          rw [hje] at HO
          have s0 := kept_cell HBR.out l1 r0
          have s1 := kept_cell HBR.out l1 r1
          have t0 := kept_free HBR.out l1 f0
          have t1 := kept_free HBR.out l1 f1
          have l2 : w.heap.size < wr.heap.size := Nat.lt_of_lt_of_le l1 HBR.out.size
          have B2 := B1.trans (HBR.out.mono B1.size)
          have q1 : ¬ (j : Int) < (us.length : Int) := by omega
          have HJE := hid hje
          clear hje r0 r1 f0 f1
          go_wp2
          refine bodyPost_ret (v := .agg #[.int .i64 0, .slice a5 (us.take j).length c5]) (by simp [results, Tryd.results7, go_sem, s0, s1]; omega) rfl ⟨⟨_, retI HV.out.1.symm, ?_⟩, setB (setB B2 (Nat.le_refl _) _) (Nat.le_refl _) _⟩
          rw [HV.out.2, intsOf_len, ← kidVals_eq, HJE.out]
          exact own_set (own_set (own_mono HO.out (by omega)) (by omega)) (by omega)
    · have HV := hid (under_range hf hr)
      rw [show (decide (0 ≤ at') && decide (at' < (ss.length : Int))) = false by simp; omega] at HHS
      clear hf hu1 hu2 hr
      go_wp2_with (go_at_call 19; refine (HHS.out _).mono ?_; rintro e w2 ⟨rfl, hw2⟩; replace hw2 := hw2.symm; subst hw2)
      refine bodyPost_ret (v := .agg #[.int .i64 3, .slice none 0 0]) (by simp [results, Tryd.results7, go_sem, r0, r1]) rfl ⟨⟨_, retI HV.out.1.symm, ?_⟩, setB (setB B1 (Nat.le_refl _) _) (Nat.le_refl _) _⟩
      rw [HV.out.2]
      exact World.ownsRow_nil _ _ _ _
  · have HV := hid (under_fault (at' := at') hf)
    have b1 : (pFault ss != 0) = true := bne_iff_ne.2 hf
    obtain rfl := hu1 hf
    clear hf hu1 hu2
    go_wp2
    refine bodyPost_ret (v := .agg #[.int .i64 (pFault ss), .slice none 0 0]) (by simp [results, Tryd.results7, go_sem, r0, r1]) rfl ⟨⟨_, retI HV.out.1.symm, ?_⟩, setB (setB B1 (Nat.le_refl _) _) (Nat.le_refl _) _⟩
    rw [HV.out.2]
    exact World.ownsRow_nil _ _ _ _

end Pf
end Go.Proofs.YtbojdlkibffcjaaDoor
