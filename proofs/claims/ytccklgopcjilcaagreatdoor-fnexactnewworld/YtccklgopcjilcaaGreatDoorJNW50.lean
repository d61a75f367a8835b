/- Laid together: EmA, GoM. -/
import Derived.Test.YtccklgopcjilcaaGreatDoorJNW19
import Derived.Test.YtccklgopcjilcaaGreatDoorJNW15
import Derived.Test.YtccklgopcjilcaaGreatDoorJNW6
/- The law's marks in rows of processes and of steps that it has handed in: they are written into these rows alone. -/
namespace Go.Proofs.YtccklgopcjilcaaGreatDoor
open Go.RowKit
set_option linter.unusedVariables false
namespace St
open Ex (hid)
open Nd (NodeD)
theorem wt_take_le (ss : List StepD) (k : Nat) : wt (ss.take k) ≤ wt ss := by
  induction ss generalizing k with
  | nil => simp [wt]
  | cons s ss ih =>
    cases k with
    | zero => simp [wt]
    | succ k => have := ih k; simp only [List.take_succ_cons, wt]; omega
theorem len_le_wt (ss : List StepD) : ss.length ≤ wt ss := by
  induction ss with
  | nil => simp [wt]
  | cons s ss ih => simp only [List.length_cons, wt]; omega
set_option maxRecDepth 100000 in
set_option maxHeartbeats 8000000 in
theorem markSteps2 (B C : Nat) (v : Value) (ss : List StepD) (k0 : Int) (w : World) (h0 : 1 ≤ k0) (hk0 : k0 ≤ 1000000000) (hwt : wt ss ≤ 1048576) (h : Own w B C v ss.length (lenC ss) (lenE ss)) :
    Calls Tryz.prog 52 #[v, .int .i64 k0] w fun e w' => (∃ r : Int, e = .returned (.int .i64 r) ∧ k0 ≤ r ∧ r ≤ k0 + 4 * (wt ss : Int)) ∧ Amid w w' B C := by
  obtain ⟨g, f, rfl, hB, hC, hr, ho⟩ := h
  have HR := hid hr
  have HO := hid ho
  have HS : Hid (∀ j, j < ss.length → wt (ss.take j) + 1 + lenC ss j + lenE ss j ≤ wt (ss.take (j + 1))) := hid (fun j hj => by
    rw [wt_take hj, lenC_eq hj, lenE_eq hj]; unfold wt1; omega)
  have HT : Hid (∀ j, wt (ss.take j) ≤ 1048576) := hid (fun j => Nat.le_trans (wt_take_le ss j) hwt)
  have HE : Hid (wt (ss.take ss.length) = wt ss) := hid (by rw [List.take_of_length_le (Nat.le_refl _)])
  have hwt0 : (wt ss : Int) ≤ 1048576 := by omega
  obtain ⟨n, hn⟩ : ∃ n, Hid (n = ss.length) := ⟨_, hid rfl⟩
  rw [← hn.out] at HR HO HS HE ⊢
  have hn2 : n ≤ 1048576 := by rw [hn.out]; exact Nat.le_trans (len_le_wt ss) hwt
  obtain ⟨mc, hmcE⟩ : ∃ mc, Hid (mc = lenC ss) := ⟨_, hid rfl⟩
  obtain ⟨me, hmeE⟩ : ∃ me, Hid (me = lenE ss) := ⟨_, hid rfl⟩
  rw [← hmcE.out] at HO HS
  rw [← hmeE.out] at HO HS
  obtain ⟨W, hW⟩ : ∃ W : Nat → Nat, Hid (W = fun j => wt (ss.take j)) := ⟨_, hid rfl⟩
  replace HS : Hid (∀ j, j < n → W j + 1 + mc j + me j ≤ W (j + 1)) := hid (fun j hj => by rw [hW.out]; exact HS.out j hj)
  replace HT : Hid (∀ j, W j ≤ 1048576) := hid (fun j => by rw [hW.out]; exact HT.out j)
  replace HE : Hid (W n = wt ss) := hid (by rw [hW.out]; exact HE.out)
  have hW0 : W 0 = 0 := by rw [hW.out]; rfl
  have HW0 := hid hW0
  clear hr ho hwt hwt0 hW0
  go_enter Tryz.func52, Tryz.ntmps52
  go_wp2
  go_loopw [1, 5] (fun q i wr => ∃ (j : Nat) (k : Int) (f' : Nat → Value), i = .int .i64 j ∧ q = .int .i64 k ∧ k0 ≤ k ∧ k ≤ k0 + 4 * (W j : Int) ∧ j ≤ n ∧ Hid (wr.rowIs g 164 (n * 6) f') ∧ Hid (∀ i, i < n → Nd.Own wr (g + 1) C (f' (i * 6 + 4)) (mc i) ∧ Nd.Own wr (g + 1) C (f' (i * 6 + 5)) (me i)) ∧ Hid (Amid w wr B C)) (fun _ i _ => n - (intOf i).toNat)
  case atStart => exact ⟨0, k0, f, rfl, rfl, by omega, by rw [HW0.out]; omega, Nat.zero_le _, HR, HO, hid (Amid.refl _ _ _)⟩
  case round =>
    obtain ⟨j, k, f', rfl, rfl, hk1, hk2, hj, HW, HV, HAM⟩ := hrel
    by_cases hlt : j < n
    · have q1 : (j : Int) < (n : Int) := by omega
      have hws := HS.out j hlt
      have hwt := HT.out (j + 1)
      have hmj : mc j ≤ 1048576 := by omega
      have hmj2 : me j ≤ 1048576 := by omega
      have d0 := HW.out.cell (i := j * 6) (by omega)
      have d1 := HW.out.cell (i := j * 6 + 1) (by omega)
      have z0 := HW.out.frozen (j * 6)
      have z1 := HW.out.frozen (j * 6 + 1)
      have hgl := HW.out.lt
      have HR1 := hid ((HW.out.set (j * 6) (.int .i64 k)).set (j * 6 + 1) (.int .i64 (k + 1)))
      have HA1 := hid ((HAM.out.trans (Amid.set wr (j * 6) (.int .i64 k) hB hC)).trans (Amid.set _ (j * 6 + 1) (.int .i64 (k + 1)) hB hC))
      have HV1 : Hid (∀ i, i < n → Nd.Own ((wr.setCell ⟨g, j * 6, none⟩ (.int .i64 k)).setCell ⟨g, j * 6 + 1, none⟩ (.int .i64 (k + 1))) (g + 1) C (f' (i * 6 + 4)) (mc i) ∧ Nd.Own ((wr.setCell ⟨g, j * 6, none⟩ (.int .i64 k)).setCell ⟨g, j * 6 + 1, none⟩ (.int .i64 (k + 1))) (g + 1) C (f' (i * 6 + 5)) (me i)) := hid (fun i hi => ⟨ownSet (ownSet (HV.out i hi).1 (by omega) _) (by omega) _, ownSet (ownSet (HV.out i hi).2 (by omega) _) (by omega) _⟩)
      go_wp2_with fail
      generalize (wr.setCell ⟨g, j * 6, none⟩ (.int .i64 k)).setCell ⟨g, j * 6 + 1, none⟩ (.int .i64 (k + 1)) = wA at *
      refine (markText' _ _ (by omega) (by omega)).mono ?_
      rintro e w1 ⟨⟨s1, rfl⟩, hb1⟩
      have hr1 := HR1.out.of_block (w' := w1) (hb1.block _ HR1.out.lt)
      have d2 := hr1.cell (i := j * 6 + 2) (by omega)
      have d3 := hr1.cell (i := j * 6 + 3) (by omega)
      have z2 := hr1.frozen (j * 6 + 2)
      have z3 := hr1.frozen (j * 6 + 3)
      have hgl1 := hr1.lt
      have HR2 := hid ((hr1.set (j * 6 + 2) (.string s1)).set (j * 6 + 3) (.int .i64 (k + 1 + 1 + 1)))
      have HA2 := hid (((HA1.out.trans (Amid.of_below hb1)).trans (Amid.set w1 (j * 6 + 2) (.string s1) hB hC)).trans (Amid.set _ (j * 6 + 3) (.int .i64 (k + 1 + 1 + 1)) hB hC))
      have HV2 : Hid (∀ i, i < n → Nd.Own ((w1.setCell ⟨g, j * 6 + 2, none⟩ (.string s1)).setCell ⟨g, j * 6 + 3, none⟩ (.int .i64 (k + 1 + 1 + 1))) (g + 1) C (f' (i * 6 + 4)) (mc i) ∧ Nd.Own ((w1.setCell ⟨g, j * 6 + 2, none⟩ (.string s1)).setCell ⟨g, j * 6 + 3, none⟩ (.int .i64 (k + 1 + 1 + 1))) (g + 1) C (f' (i * 6 + 5)) (me i)) := hid (fun i hi => ⟨ownSet (ownSet (ownBelow (HV1.out i hi).1 hb1) (by omega) _) (by omega) _, ownSet (ownSet (ownBelow (HV1.out i hi).2 hb1) (by omega) _) (by omega) _⟩)
      generalize hF2 : (fun i => if i = j * 6 + 3 then Value.int .i64 (k + 1 + 1 + 1) else (fun i => if i = j * 6 + 2 then Value.string s1 else (fun i => if i = j * 6 + 1 then Value.int .i64 (k + 1) else (fun i => if i = j * 6 then Value.int .i64 k else f' i) i) i) i) = F2 at *
      have e4 : ∀ i, F2 (i * 6 + 4) = f' (i * 6 + 4) := fun i => by
        have h1 : ¬ i * 6 + 4 = j * 6 + 3 := by omega
        have h2 : ¬ i * 6 + 4 = j * 6 + 2 := by omega
        have h3 : ¬ i * 6 + 4 = j * 6 + 1 := by omega
        have h4 : ¬ i * 6 + 4 = j * 6 := by omega
        rw [← hF2]
        simp only [h1, h2, h3, h4, if_false]
      have e5 : ∀ i, F2 (i * 6 + 5) = f' (i * 6 + 5) := fun i => by
        have h1 : ¬ i * 6 + 5 = j * 6 + 3 := by omega
        have h2 : ¬ i * 6 + 5 = j * 6 + 2 := by omega
        have h3 : ¬ i * 6 + 5 = j * 6 + 1 := by omega
        have h4 : ¬ i * 6 + 5 = j * 6 := by omega
        rw [← hF2]
        simp only [h1, h2, h3, h4, if_false]
      have E4 := hid e4
      have E5 := hid e5
      have c4 := HR2.out.cell (i := j * 6 + 4) (by omega)
      have c5 := HR2.out.cell (i := j * 6 + 5) (by omega)
      rw [e4] at c4
      rw [e5] at c5
      have hoc := (HV2.out j hlt).1
      obtain ⟨gc, fc, hvc, hgc1, hgc2, hrc⟩ := hoc
      obtain ⟨ge, fe, hve, hge1, hge2, hre⟩ := (HV2.out j hlt).2
      have HVE := hid hve
      rw [hvc] at c4
      have hgl2 := HR2.out.lt
      have HRC := hid hrc
      clear hF2 hvc e4 e5 hrc hre hr1 c5
      go_wp2_with fail
      generalize (w1.setCell ⟨g, j * 6 + 2, none⟩ (.string s1)).setCell ⟨g, j * 6 + 3, none⟩ (.int .i64 (k + 1 + 1 + 1)) = wB at *
      refine (markNodes gc (mc j) fc (k + 1 + 1 + 1 + 1) _ hmj (by omega) (by omega) HRC.out).mono ?_
      rintro e w4 ⟨⟨r4, rfl, hr4a, hr4b⟩, hf4, hA4⟩
      have HV4 : Hid (∀ i, i < n → Nd.Own w4 (g + 1) C (f' (i * 6 + 4)) (mc i) ∧ Nd.Own w4 (g + 1) C (f' (i * 6 + 5)) (me i)) := hid (fun i hi => ⟨ownAmid (HV2.out i hi).1 hA4 HRC.out hf4, ownAmid (HV2.out i hi).2 hA4 HRC.out hf4⟩)
      have HR4 := hid (HR2.out.of_block (w' := w4) (hA4.block g HR2.out.lt (.inl (by omega))))
      have HA4 := hid (HA2.out.trans (hA4.mono (by omega) (by omega)))
      have c5 := HR4.out.cell (i := j * 6 + 5) (by omega)
      have hgl4 := HR4.out.lt
      rw [E5.out] at c5
      obtain ⟨ge', fe', hve', hge1', hge2', hre'⟩ := (HV4.out j hlt).2
      rw [hve'] at c5
      have HRE := hid hre'
      clear hve' hre' hf4 hA4
      go_wp2_with fail
      refine (markNodes ge' (me j) fe' r4 _ hmj2 (by omega) (by omega) HRE.out).mono ?_
      rintro e w5 ⟨⟨r5, rfl, hr5a, hr5b⟩, hf5, hA5⟩
      have HV5 : Hid (∀ i, i < n → Nd.Own w5 (g + 1) C (F2 (i * 6 + 4)) (mc i) ∧ Nd.Own w5 (g + 1) C (F2 (i * 6 + 5)) (me i)) := hid (fun i hi => by
        rw [E4.out, E5.out]
        exact ⟨ownAmid (HV4.out i hi).1 hA5 HRE.out hf5, ownAmid (HV4.out i hi).2 hA5 HRE.out hf5⟩)
      have HR5 := hid (HR4.out.of_block (w' := w5) (hA5.block g HR4.out.lt (.inl (by omega))))
      have HA5 := hid (HA4.out.trans (hA5.mono (by omega) (by omega)))
      clear hf5 hA5
      go_wp2
      exact ⟨⟨j + 1, r5, F2, by simp, rfl, by omega, by omega, by omega, HR5, HV5, HA5⟩, by simp [intOf]; omega⟩
    · obtain rfl : j = n := by omega
      go_wp2
      go_ret
      exact ⟨⟨_, rfl, hk1, by rw [← HE.out]; exact hk2⟩, HAM.out⟩
end St
namespace Ep
open Ex (hid)
open St (StepD Amid lenC lenE)
theorem wt_take_le (ss : List (List StepD)) (k : Nat) : wt (ss.take k) ≤ wt ss := by
  induction ss generalizing k with
  | nil => simp [wt]
  | cons s ss ih =>
    cases k with
    | zero => simp [wt]
    | succ k => have := ih k; simp only [List.take_succ_cons, wt]; omega
theorem len_le_wt (ss : List (List StepD)) : ss.length ≤ wt ss := by
  induction ss with
  | nil => simp [wt]
  | cons s ss ih => simp only [List.length_cons, wt]; omega
theorem wt_mem {ss : List (List StepD)} {j : Nat} (h : j < ss.length) : St.wt ss[j] ≤ wt ss := by
  have h1 := wt_take h
  have h2 := wt_take_le ss (j + 1)
  unfold wt1 at h1; omega
set_option maxRecDepth 100000 in
set_option maxHeartbeats 4000000 in
theorem markS (B C : Nat) (v : Value) (ss : List (List StepD)) (k0 : Int) (w : World) (h0 : 1 ≤ k0) (hk0 : k0 ≤ 100000000) (hwt : wt ss ≤ 1048576) (h : Own w B C v ss.length ss) :
    Calls Tryz.prog 15 #[v, .int .i64 k0] w fun e w' => (∃ r : Int, e = .returned (.int .i64 r) ∧ k0 ≤ r ∧ r ≤ k0 + 4 * (wt ss : Int)) ∧ Amid w w' B C := by
  obtain ⟨g, f, rfl, hB, hC, hr, lo, hi, hv, ho⟩ := h
  have HR := hid hr
  have HO : Hid (∀ j (h : j < ss.length), St.Own w (lo j) (hi j) (f j) ss[j].length (lenC ss[j]) (lenE ss[j])) := hid ho
  have HV := hid hv
  have HS : Hid (∀ j (h : j < ss.length), wt (ss.take (j + 1)) = wt (ss.take j) + 1 + St.wt ss[j]) := hid (fun j hj => wt_take hj)
  have HT : Hid (∀ j, wt (ss.take j) ≤ 1048576) := hid (fun j => Nat.le_trans (wt_take_le ss j) hwt)
  have HE : Hid (wt (ss.take ss.length) = wt ss) := hid (by rw [List.take_of_length_le (Nat.le_refl _)])
  have hn2 : ss.length ≤ 1048576 := Nat.le_trans (len_le_wt ss) hwt
  have HM : Hid (∀ j (h : j < ss.length), St.wt ss[j] ≤ 1048576) := hid (fun j h => Nat.le_trans (wt_mem h) hwt)
  clear hr ho hv hwt
  go_enter Tryz.func15, Tryz.ntmps15
  go_wp2
  go_loopw [1, 5] (fun q i wr => ∃ (j : Nat) (k : Int), i = .int .i64 j ∧ q = .int .i64 k ∧ k0 ≤ k ∧ k ≤ k0 + 4 * (wt (ss.take j) : Int) ∧ j ≤ ss.length ∧ Hid (wr.rowIs g 89 (ss.length * 1) f) ∧ Hid (∀ i (h : i < ss.length), j ≤ i → St.Own wr (lo i) (hi i) (f i) ss[i].length (lenC ss[i]) (lenE ss[i])) ∧ Hid (Amid w wr B C)) (fun _ i _ => ss.length - (intOf i).toNat)
  case atStart => exact ⟨0, k0, rfl, rfl, by omega, by simp [wt], Nat.zero_le _, HR, hid (fun i h _ => HO.out i h), hid (Amid.refl _ _ _)⟩
  case round =>
    obtain ⟨j, k, rfl, rfl, hk1, hk2, hj, HW, HQ, HAM⟩ := hrel
    by_cases hlt : j < ss.length
    · have q1 : (j : Int) < (ss.length : Int) := by omega
      have c0 : wr.cell? ⟨g, j, none⟩ = some (f j) := HW.out.cell (i := j) (by omega)
      have hgl := HW.out.lt
      have hown := HQ.out j hlt (Nat.le_refl _)
      have hws := HS.out j hlt
      have hwt := HT.out (j + 1)
      have hwm := HM.out j hlt
      obtain ⟨g1, f1, hv1, _⟩ := id hown
      have HC := hid (St.markSteps2 (lo j) (hi j) (f j) ss[j] k wr (by omega) (by omega) hwm hown)
      rw [hv1] at c0 HC
      have hiv := HV.out.base j hlt
      clear hown hv1
      go_wp2_with fail
      refine HC.out.mono ?_
      rintro e w1 ⟨⟨r, rfl, hr1, hr2⟩, ham⟩
      have HW1 := hid (HW.out.of_block (w' := w1) (ham.block g HW.out.lt (.inl (by omega))))
      have HQ1 : Hid (∀ i (h : i < ss.length), j + 1 ≤ i → St.Own w1 (lo i) (hi i) (f i) ss[i].length (lenC ss[i]) (lenE ss[i])) := hid (fun i hi' hji => own1Kept (HQ.out i hi' (by omega)) (fun b hb1 hb2 hb3 => ham.block b hb3 (by have := HV.out.sep j i (by omega) hi'; omega)))
      have HA1 := hid (HAM.out.trans (ham.mono (by omega) hiv.2))
      clear ham HC
      go_wp2
      exact ⟨⟨j + 1, r, by simp, rfl, by omega, by omega, by omega, HW1, HQ1, HA1⟩, by simp [intOf]; omega⟩
    · obtain rfl : j = ss.length := by omega
      go_wp2
      go_ret
      exact ⟨⟨_, rfl, hk1, by rw [← HE.out]; exact hk2⟩, HAM.out⟩
end Ep
end Go.Proofs.YtccklgopcjilcaaGreatDoor
/- How long what a step of a process without a fault has can be. -/
namespace Go.Proofs.YtccklgopcjilcaaGreatDoor
set_option linter.unusedVariables false
namespace Gr
open Ex (inR eFault)
open St (StepD)
open Tr (nf)
open Pf (PJ PJ_eq pFault of_p of_one first_all formOk partC linkC)
theorem nf8 {l : List UInt8} (h : nf l = 0) : l.length ≤ 8 := by
  unfold nf at h
  split at h
  · cases h
  split at h
  · cases h
  split at h
  · cases h
  omega
theorem few {ss : List StepD} (h : pFault ss = 0) {i : Nat} (hi : i < ss.length) : ss[i].name.size ≤ 8 ∧ ss[i].cond.length ≤ 16 ∧ ss[i].expr.length ≤ 16 := by
  obtain ⟨_, h1, h2, h3⟩ := of_p h
  have e := of_one (first_all h1 hi)
  have e2 := first_all h2 hi
  rw [PJ_eq hi] at e
  obtain ⟨f, _, _, _, p⟩ := e
  unfold formOk at f
  have fb : Pf.bare ss[i] = true := (Bool.and_eq_true _ _ ▸ f).2
  unfold partC at p
  unfold Pf.bare at fb
  rw [Bool.and_eq_true, Bool.and_eq_true] at fb
  obtain ⟨⟨b1, b2⟩, b3⟩ := fb
  refine ⟨?_, ?_, ?_⟩
  · by_cases hk : ss[i].kind = 2
    · by_cases hn : nf ss[i].name.data.toList = 0
      · exact nf8 hn
      · rw [if_pos ⟨hk, hn⟩] at p; exact absurd p hn
    · have hz : ss[i].name.toList.isEmpty = true := by
        rcases Bool.or_eq_true_iff.1 b1 with q | q
        · exact absurd (by simpa using q) hk
        · exact q
      rw [ByteArray.toList_eq, List.isEmpty_iff] at hz
      have : ss[i].name.data.toList.length = 0 := by rw [hz]; rfl
      have e3 : ss[i].name.data.toList.length = ss[i].name.size := rfl
      omega
  · by_cases hc : 0 < ss[i].cond.length
    · unfold linkC at e2
      rw [PJ_eq hi] at e2
      split at e2
      · cases e2
      split at e2
      · cases e2
      try rw [if_pos hc] at e2
      exact (Ex.of_e e2).2.1
    · omega
  · by_cases hk : ss[i].kind = 7
    · rw [if_neg (by omega)] at p
      split at p
      · cases p
      try rw [if_pos hk] at p
      exact (Ex.of_e p).2.1
    · rcases Bool.or_eq_true_iff.1 b3 with q | q
      · exact absurd (by simpa using q) hk
      · have : ss[i].expr.length = 0 := by simpa using q
        omega
end Gr
end Go.Proofs.YtccklgopcjilcaaGreatDoor
