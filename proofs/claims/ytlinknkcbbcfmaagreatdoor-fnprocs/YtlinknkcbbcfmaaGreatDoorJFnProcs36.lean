/- StepsUnder, of the specification and of the program. Condition of the second: the table of rules lies as its initialiser lays it. -/
import Derived.Test.YtlinknkcbbcfmaaGreatDoorJFnProcs35
import Derived.Deep.RegionHeld3
namespace Go.Proofs.YtlinknkcbbcfmaaGreatDoor
open Go.RowKit
set_option linter.unusedVariables false
namespace Pf
open Ex (hid inR eFault specIn)
open Nd (NodeD)
open St (StepD)
open Tr (Chain cutTo onPath top nf ElemD)
open Pt (kidVals infoI64 info_parts)
open Ints (vals IntsAt)
def dOf (ss : List StepD) (i : Nat) : Nat := (path ss (i + 1)).length
/-- The places from i on, as long as they stand deeper than k. -/
def uFrom (ss : List StepD) (k i : Nat) : List Nat := (List.range' i (ss.length - i)).takeWhile fun j => decide (dOf ss k < dOf ss j)
theorem u_step {ss : List StepD} {k i : Nat} (hi : i < ss.length) (h : dOf ss k < dOf ss i) : uFrom ss k i = i :: uFrom ss k (i + 1) := by
  unfold uFrom
  rw [show ss.length - i = (ss.length - (i + 1)) + 1 by omega, List.range'_succ, List.takeWhile_cons, if_pos (by simpa using h)]
theorem u_stop {ss : List StepD} {k i : Nat} (hi : i < ss.length) (h : ¬ dOf ss k < dOf ss i) : uFrom ss k i = [] := by
  unfold uFrom
  rw [show ss.length - i = (ss.length - (i + 1)) + 1 by omega, List.range'_succ, List.takeWhile_cons, if_neg (by simpa using h)]
theorem u_end {ss : List StepD} {k i : Nat} (hi : ss.length ≤ i) : uFrom ss k i = [] := by
  unfold uFrom
  rw [show ss.length - i = 0 by omega]
  rfl
def underN (ss : List StepD) (k : Nat) : List Nat := k :: uFrom ss k (k + 1)
def underC (ss : List StepD) (at' : Int) : Int := if pFault ss ≠ 0 then pFault ss else if 0 ≤ at' ∧ at' < ss.length then 0 else 3
def underL (ss : List StepD) (at' : Int) : List Int := if underC ss at' = 0 then intsOf (underN ss at'.toNat) else []
theorem under_fault {ss : List StepD} {at' : Int} (h : pFault ss ≠ 0) : underC ss at' = pFault ss ∧ underL ss at' = [] := by
  have e : underC ss at' = pFault ss := by unfold underC; rw [if_pos h]
  exact ⟨e, by unfold underL; rw [if_neg (by rw [e]; exact h)]⟩
theorem under_range {ss : List StepD} {at' : Int} (h : pFault ss = 0) (h2 : ¬ (0 ≤ at' ∧ at' < ss.length)) : underC ss at' = 3 ∧ underL ss at' = [] := by
  have e : underC ss at' = 3 := by unfold underC; rw [if_neg (by simp [h]), if_neg h2]
  exact ⟨e, by unfold underL; rw [if_neg (by rw [e]; decide)]⟩
theorem under_ok {ss : List StepD} {k : Nat} (h : pFault ss = 0) (hk : k < ss.length) : underC ss k = 0 ∧ underL ss k = intsOf (underN ss k) := by
  have e : underC ss k = 0 := by unfold underC; rw [if_neg (by simp [h]), if_pos (by omega)]
  exact ⟨e, by unfold underL; rw [if_pos e, Int.toNat_natCast]⟩
theorem uFrom_le (ss : List StepD) (k i : Nat) : (uFrom ss k i).length ≤ ss.length - i := by
  unfold uFrom
  have := List.takeWhile_sublist (l := List.range' i (ss.length - i)) (fun j => decide (dOf ss k < dOf ss j)) |>.length_le
  simpa using this
theorem underL_len {ss : List StepD} {at' : Int} : (underL ss at').length ≤ ss.length := by
  unfold underL
  split
  · rename_i h
    have hr : 0 ≤ at' ∧ at' < ss.length := by
      unfold underC at h
      by_cases hf : pFault ss ≠ 0
      · rw [if_pos hf] at h; exact absurd h hf
      · rw [if_neg hf] at h
        by_cases h2 : 0 ≤ at' ∧ at' < ss.length
        · exact h2
        · rw [if_neg h2] at h; omega
    rw [intsOf_len, underN, List.length_cons]
    have := uFrom_le ss at'.toNat (at'.toNat + 1)
    omega
  · exact Nat.zero_le _
theorem row_one (w : World) (k : Nat) : (w.alloc (.cells #[.int .i64 (k : Int)] 2)).ownsRow w.heap.size 2 1 (.slice (some ⟨w.heap.size, 0, none⟩) 1 1) 1 (kidVals [k]) :=
  ⟨rfl, .inr ⟨w.heap.size, 1, #[.int .i64 (k : Int)], rfl, Nat.le_refl _, World.alloc_heap_new w _, Nat.le_refl _, by unfold maxLen; omega, rfl, rfl⟩⟩
set_option maxRecDepth 100000 in
set_option maxHeartbeats 8000000 in
theorem specUnder (B : Nat) (ss : List StepD) (v : Value) (k : Nat) (w : World) (hl : ss.length ≤ 24) (hk : k < ss.length) (h1 : firstC (oneC ss) ss.length = 0) (ha : St.At w B v ss) :
    Calls Tryz.prog 23 #[v, .int .i64 (k : Int)] w fun e w' => (∃ u, e = .returned u ∧ w'.ownsRow w.heap.size 2 1 u (underN ss k).length (kidVals (underN ss k))) ∧ Below w.heap.size w w' := by
  obtain ⟨a, cap, rfl⟩ := ha.slice
  have HA := hid ha
  have H1 := hid h1
  clear ha h1
  obtain ⟨j0, hj, hy0, hy1, hy2⟩ := info_parts infoI64
  have HM : Hid ((w.alloc (.cells #[.int .i64 (k : Int)] 2)).ownsRow w.heap.size 2 1 (.slice (some ⟨w.heap.size, 0, none⟩) 1 1) 1 (kidVals [k])) := hid (row_one w k)
  go_enter Tryz.func23, Tryz.ntmps23
  go_wp2
  go_loopw [5, 6] (fun o x wr => ∃ (i : Nat) (ks : List Nat), x = .int .i64 i ∧ k < i ∧ i ≤ ss.length ∧ ks.length ≤ i ∧ (∃ a5 c5, o = .slice a5 ks.length c5) ∧ Hid (wr.ownsRow w.heap.size 2 1 o ks.length (kidVals ks)) ∧ Hid (underN ss k = ks ++ uFrom ss k i) ∧ Hid (Below w.heap.size w wr)) (fun _ x _ => ss.length - (intOf x).toNat)
  case atStart => exact ⟨k + 1, [k], by simp, by omega, by omega, by simp, ⟨_, _, rfl⟩, HM, hid rfl, hid ((Below.refl _ w).alloc (Nat.le_refl _) _)⟩
  case round =>
    obtain ⟨i, ks, rfl, hki, hi, hkl, ⟨a5, c5, rfl⟩, HO, HU, HBR⟩ := hrel
    have hz := HBR.out.size
    by_cases hlt : i < ss.length
    · have q1 : (i : Int) < (ss.length : Int) := by omega
      have HD : Hid (∀ (j : Nat) (z : Int), j < ss.length → z = (j : Int) → Calls Tryz.prog 34 #[.slice a ss.length cap, .int .i64 z] wr fun e w' => e = .returned (.int .i64 (dOf ss j : Int)) ∧ w' = wr) := hid (fun j z hjl hz => by rw [hz]; exact specDeepAt B ss _ j wr hl hjl H1.out (HA.out.below HBR.out))
      have HUS := hid (u_step (k := k) hlt)
      have HUE := hid (u_stop (k := k) hlt)
      have HDi := hid (HD.out i i hlt rfl)
      have HDk := hid (HD.out k k hk rfl)
      clear HD
      have hown := HO.out
      generalize dOf ss i = di at *
      generalize dOf ss k = dk at *
      go_wp2_with fail
      refine HDi.out.mono ?_
      rintro e w2 ⟨rfl, hw2⟩
      replace hw2 := hw2.symm
      subst hw2
      go_wp2_with fail
      refine HDk.out.mono ?_
      rintro e w2 ⟨rfl, hw2⟩
      replace hw2 := hw2.symm
      subst hw2
      by_cases hd : dk < di
      · have q2 : (dk : Int) < (di : Int) := by omega
        have HX : Hid (underN ss k = (ks ++ [i]) ++ uFrom ss k (i + 1)) := hid (by rw [HU.out, HUS.out hd, List.append_assoc]; rfl)
        clear HU HUS HUE hd HDi HDk
        go_wp2_with (at_builtin; go_must (refine wpList_append_own _ rfl _ _ 27 rfl w.heap.size 2 j0 (.int .i64 0) 1 8 Tryz.underlying27 hj hy0 hy1 hy2 rfl (by decide) _ _ _ rfl (hown.alloc _) ⟨wr.heap.size, 0, none⟩ 1 1 [.int .i64 (i : Int)] rfl rfl (cell_one_new _ _ _) (by simp [Value.oneCell']) (by unfold maxLen; omega) (by omega) (by simp; omega) ?_); intro v' w2 hown' hgrow _; obtain ⟨g9, c9, rfl⟩ := ownsRow_succ hown')
        have hB2 : Below w.heap.size w w2 := (HBR.out.alloc hz _).grown hgrow (by simp; omega) (fun b e => (Pt.own_lt hown e).1)
        refine ⟨⟨i + 1, ks ++ [i], by simp, by omega, by omega, by rw [List.length_append]; simp; omega, ⟨some ⟨g9, 0, none⟩, c9, by rw [List.length_append]; rfl⟩, hid ?_, HX, hid hB2⟩, by simp [intOf]; omega⟩
        simpa [kidVals] using hown'
      · have q2 : ¬ (dk : Int) < (di : Int) := by omega
        have HX : Hid (underN ss k = ks) := hid (by rw [HU.out, HUE.out hd, List.append_nil])
        clear HU HUS HUE hd HDi HDk
        go_wp2
        go_ret
        exact ⟨⟨_, rfl, by rw [HX.out]; exact HO.out⟩, HBR.out⟩
    · have HX : Hid (underN ss k = ks) := hid (by rw [HU.out, u_end (by omega), List.append_nil])
      have q1 : ¬ (i : Int) < (ss.length : Int) := by omega
      clear HU
      go_wp2
      go_ret
      exact ⟨⟨_, rfl, by rw [HX.out]; exact HO.out⟩, HBR.out⟩
set_option maxRecDepth 100000 in
set_option maxHeartbeats 8000000 in
theorem specStepsUnder (B : Nat) (ss : List StepD) (v : Value) (at' : Int) (w : World) (hsm : St.Small 1048576 ss) (ha : St.At w B v ss) :
    Calls Tryz.prog 7 #[v, .int .i64 at'] w (IPost (underC ss at') (underL ss at') w) := by
  obtain ⟨a, cap, rfl⟩ := ha.slice
  have hlen := hsm.1
  have hb0 : Below w.heap.size w (w.alloc (.cells #[.int .i64 0, .slice none 0 0] 29)) := (Below.refl _ w).alloc (Nat.le_refl _) _
  have HF := hid (specFault B ss _ _ hsm (ha.below hb0))
  have HI := hid (fun w' => specIn at' 0 ((ss.length : Int) - 1) w')
  have HA := hid ha
  clear ha hsm
  unfold IPost
  go_enter Tryz.func7, Tryz.ntmps7
  go_wp2_with fail
  refine HF.out.mono ?_
  rintro e w1 ⟨rfl, hb1⟩
  have B1 : Below w.heap.size w w1 := hb0.trans (hb1.mono (by simp))
  simp only [World.size_alloc] at hb1
  have l1 : w.heap.size < w1.heap.size := by have := hb1.size; simp at this; omega
  have r0 := kept_cell hb1 (b := w.heap.size) (o := 0) (v := .int .i64 0) (by omega) (by go_simp)
  have r1 := kept_cell hb1 (b := w.heap.size) (o := 1) (v := .slice none 0 0) (by omega) (by go_simp)
  have f0 := kept_free hb1 (b := w.heap.size) (o := 0) (by omega) (by go_simp)
  have f1 := kept_free hb1 (b := w.heap.size) (o := 1) (by omega) (by go_simp)
  clear HF
  by_cases hf : pFault ss = 0
  · have b1 : (pFault ss != 0) = false := by simp [hf]
    have HP := hid (of_p hf)
    have hl : ss.length ≤ 24 := by have := HP.out.1; omega
    by_cases hr : 0 ≤ at' ∧ at' < (ss.length : Int)
    · obtain ⟨k, rfl⟩ : ∃ k : Nat, at' = (k : Int) := ⟨at'.toNat, by omega⟩
      have hk : k < ss.length := by omega
      have e1 : inR (k : Int) 0 ((ss.length : Int) - 1) = true := Ex.inR_iff.2 (by omega)
      rw [e1] at HI
      have HV := hid (under_ok hf hk)
      have HKK := hid (specUnder B ss _ k w1 hl hk HP.out.2.1 (HA.out.below B1))
      clear e1 hr hf
      go_wp2_with (go_at_call 22; refine (HI.out _).mono ?_; rintro e w2 ⟨rfl, hw2⟩; replace hw2 := hw2.symm; subst hw2)
      refine HKK.out.mono ?_
      rintro e w2 ⟨⟨u, rfl, ho⟩, hb2⟩
      obtain ⟨x5, c5, rfl⟩ := Ints.owns_slice ho
      have HO := hid ho
      clear ho
      have B2 := B1.trans (hb2.mono B1.size)
      have l2 : w.heap.size < w2.heap.size := by have := hb2.size; omega
      have s0 := kept_cell hb2 (by omega) r0
      have s1 := kept_cell hb2 (by omega) r1
      have t0 := kept_free hb2 (by omega) f0
      have t1 := kept_free hb2 (by omega) f1
      go_wp2
      refine bodyPost_ret (v := .agg #[.int .i64 0, .slice x5 (underN ss k).length c5]) (by simp [results, Tryz.results7, go_sem, s0, s1]) rfl ⟨⟨_, retI HV.out.1.symm, ?_⟩, setB (setB B2 (Nat.le_refl _) _) (Nat.le_refl _) _⟩
      rw [HV.out.2, intsOf_len, ← kidVals_eq]
      exact own_set (own_set (own_mono HO.out (by omega)) (by omega)) (by omega)
    · have HV := hid (under_range hf hr)
      have e1 : inR at' 0 ((ss.length : Int) - 1) = false := Ex.inR_not.2 (by omega)
      rw [e1] at HI
      clear e1 hr hf
      go_wp2_with (go_at_call 22; refine (HI.out _).mono ?_; rintro e w2 ⟨rfl, hw2⟩; replace hw2 := hw2.symm; subst hw2)
      refine bodyPost_ret (v := .agg #[.int .i64 3, .slice none 0 0]) (by simp [results, Tryz.results7, go_sem, r0, r1]) rfl ⟨⟨_, retI HV.out.1.symm, ?_⟩, setB (setB B1 (Nat.le_refl _) _) (Nat.le_refl _) _⟩
      rw [HV.out.2]
      exact World.ownsRow_nil _ _ _ _
  · have HV := hid (under_fault (at' := at') hf)
    have b1 : (pFault ss != 0) = true := by simpa using hf
    clear hf HI
    go_wp2
    refine bodyPost_ret (v := .agg #[.int .i64 (pFault ss), .slice none 0 0]) (by simp [results, Tryz.results7, go_sem, r0, r1]) rfl ⟨⟨_, retI HV.out.1.symm, ?_⟩, setB (setB B1 (Nat.le_refl _) _) (Nat.le_refl _) _⟩
    rw [HV.out.2]
    exact World.ownsRow_nil _ _ _ _
set_option maxRecDepth 100000 in
set_option maxHeartbeats 1000000 in
theorem isBelow (x0 y0 : Int) (x1 y1 : Nat) (a b : Option Addr) (n cap m c : Nat) (w : World) :
    Calls Tryz.prog 20 #[.agg #[.int .i64 x0, .int .i64 (x1 : Int), .slice a n cap], .agg #[.int .i64 y0, .int .i64 (y1 : Int), .slice b m c]] w fun e w' => e = .returned (.bool (decide (y1 < x1))) ∧ Below w.heap.size w w' := by
  by_cases h : y1 < x1
  · have q : (y1 : Int) < (x1 : Int) := by omega
    have HV : Hid (decide (y1 < x1) = true) := hid (by simp [h])
    rw [HV.out]
    clear HV
    go_enter Tryz.func20, Tryz.ntmps20
    go_wp2
    go_ret
    exact ⟨by simp, ((Below.refl _ w).alloc (Nat.le_refl _) _).alloc (by simp) _⟩
  · have q : ¬ (y1 : Int) < (x1 : Int) := by omega
    have HV : Hid (decide (y1 < x1) = false) := hid (by simp [h])
    rw [HV.out]
    clear HV
    go_enter Tryz.func20, Tryz.ntmps20
    go_wp2
    go_ret
    exact ⟨by simp, ((Below.refl _ w).alloc (Nat.le_refl _) _).alloc (by simp) _⟩
set_option maxRecDepth 100000 in
set_option maxHeartbeats 8000000 in
theorem implStepsUnder (ss : List StepD) (v : Value) (at' : Int) (w : World) (hsm : St.Small 1048576 ss) (ha : St.At w 0 v ss) (hr : Rul w) :
    Calls Tryz.prog 6 #[v, .int .i64 at'] w (IPost (underC ss at') (underL ss at') w) := by
  obtain ⟨a, cap, rfl⟩ := ha.slice
  have hb0 : Below w.heap.size w (w.alloc (.cells #[.int .i64 0, .slice none 0 0] 29)) := (Below.refl _ w).alloc (Nat.le_refl _) _
  have HF := hid (procStepsC ss _ _ hsm (ha.below hb0) (hr.below hb0 hr.lt))
  clear ha hsm hr
  obtain ⟨j0, hj, hy0, hy1, hy2⟩ := info_parts infoI64
  unfold IPost
  go_enter Tryz.func6, Tryz.ntmps6
  go_wp2_with fail
  refine HF.out.mono ?_
  rintro e w1 ⟨⟨u, rfl, hu1, hu2⟩, hb1⟩
  have B1 : Below w.heap.size w w1 := hb0.trans (hb1.mono (by simp))
  simp only [World.size_alloc] at hb1
  have l1 : w.heap.size < w1.heap.size := by have := hb1.size; simp at this; omega
  have r0 := kept_cell hb1 (b := w.heap.size) (o := 0) (v := .int .i64 0) (by omega) (by go_simp)
  have r1 := kept_cell hb1 (b := w.heap.size) (o := 1) (v := .slice none 0 0) (by omega) (by go_simp)
  have f0 := kept_free hb1 (b := w.heap.size) (o := 0) (by omega) (by go_simp)
  have f1 := kept_free hb1 (b := w.heap.size) (o := 1) (by omega) (by go_simp)
  clear HF
  by_cases hf : pFault ss = 0
  · have b1 : (pFault ss != 0) = false := by simp [hf]
    have HP := hid (of_p hf)
    have hl : ss.length ≤ 24 := by have := HP.out.1; omega
    have hPA := (hu2 hf).1
    obtain ⟨gu, cu, rfl, _⟩ := hPA
    have HPA := hid (hu2 hf).1
    have hcu := ((hu2 hf).2 _ _ _ rfl).1
    by_cases hr : 0 ≤ at' ∧ at' < (ss.length : Int)
    · obtain ⟨k, rfl⟩ : ∃ k : Nat, at' = (k : Int) := ⟨at'.toNat, by omega⟩
      have hk : k < ss.length := by omega
      have HV := hid (under_ok hf hk)
      have q1 : ¬ (k : Int) < 0 := by omega
      have q2 : ¬ (ss.length : Int) ≤ (k : Int) := by omega
      have q3 : (k : Int) + 1 ≤ (ss.length : Int) := by omega
      have qd : decide (ss.length ≤ k) = false := by simp; omega
      have qe : decide ((ss.length : Int) ≤ (k : Int)) = false := by simp; omega
      clear hf hu1 hu2 hr
      have qk : decide ((k : Int) < 0) = false := by simp
      have HM : Hid ((w1.alloc (.cells #[.int .i64 (k : Int)] 2)).ownsRow w1.heap.size 2 1 (.slice (some ⟨w1.heap.size, 0, none⟩) 1 1) 1 (kidVals [k])) := hid (row_one w1 k)
      have HBM : Hid (Below w1.heap.size w1 (w1.alloc (.cells #[.int .i64 (k : Int)] 2))) := hid ((Below.refl _ w1).alloc (Nat.le_refl _) _)
      by_cases hce : cu = k + 1
      · have hle : ss.length = k + 1 := by omega
        have HX : Hid (underN ss k = [k]) := hid (by unfold underN; rw [u_end (by omega)])
        subst hce
        go_wp2
        go_loopw [7, 9, 35] (fun o _ x wr => o = .slice (some ⟨w1.heap.size, 0, none⟩) 1 1 ∧ x = .int .i64 0 ∧ Hid (wr.ownsRow w1.heap.size 2 1 o 1 (kidVals [k])) ∧ Hid (Below w1.heap.size w1 wr)) (fun _ _ _ _ => 0)
        case atStart => exact ⟨rfl, rfl, HM, HBM⟩
        case round =>
          obtain ⟨rfl, rfl, HO, HBR⟩ := hrel
          have hz := HBR.out.size
          have y1 : ¬ (0 : Int) < ((ss.length - (k + 1) : Nat) : Int) := by omega
          have y2 : ¬ 0 < ss.length - (k + 1) := by omega
          have y3 : ¬ k + 1 < ss.length := by omega
          have s0 := kept_cell HBR.out l1 r0
          have s1 := kept_cell HBR.out l1 r1
          have t0 := kept_free HBR.out l1 f0
          have t1 := kept_free HBR.out l1 f1
          have l2 : w.heap.size < wr.heap.size := Nat.lt_of_lt_of_le l1 HBR.out.size
          have B2 := B1.trans (HBR.out.mono B1.size)
          clear r0 r1 f0 f1
          go_wp2
          refine bodyPost_ret (v := .agg #[.int .i64 0, .slice (some ⟨w1.heap.size, 0, none⟩) 1 1]) (by simp [results, Tryz.results6, go_sem, s0, s1]) rfl ⟨⟨_, retI HV.out.1.symm, ?_⟩, setB (setB B2 (Nat.le_refl _) _) (Nat.le_refl _) _⟩
          rw [HV.out.2, intsOf_len, ← kidVals_eq, HX.out]
          exact own_set (own_set (own_mono HO.out (by omega)) (by omega)) (by omega)
      have hcl : k + 1 < cu := by omega
      go_wp2
      go_loopw [7, 9, 35] (fun o _ x wr => ∃ (j : Nat) (ks : List Nat), x = .int .i64 j ∧ j ≤ ss.length - (k + 1) ∧ ks.length ≤ k + 1 + j ∧ (∃ a5 c5, o = .slice a5 ks.length c5) ∧ Hid (wr.ownsRow w1.heap.size 2 1 o ks.length (kidVals ks)) ∧ Hid (underN ss k = ks ++ uFrom ss k (k + 1 + j)) ∧ Hid (Below w1.heap.size w1 wr)) (fun _ _ x _ => ss.length - (k + 1) - (intOf x).toNat)
      case atStart => exact ⟨0, [k], rfl, Nat.zero_le _, by simp, ⟨_, _, rfl⟩, HM, hid rfl, HBM⟩
      case round =>
        obtain ⟨j, ks, rfl, hjl, hkl, ⟨a5, c5, rfl⟩, HO, HU, HBR⟩ := hrel
        have hz := HBR.out.size
        by_cases hlt : j < ss.length - (k + 1)
        · obtain ⟨i, hi⟩ : ∃ i, i = k + 1 + j := ⟨_, rfl⟩
          have hlj : i < ss.length := by omega
          have hP := HPA.out.below HBR.out
          obtain ⟨g', cap', e', hg, hc⟩ := hP
          cases e'
          obtain ⟨kv, vc, ve, d0, d1, d2, d3, d4, d5, d6, d7, d8, hpc⟩ := hc i hlj
          obtain ⟨kv2, vc2, ve2, m0, m1, m2, m3, m4, m5, m6, m7, m8, hpc2⟩ := hc k hk
          obtain ⟨ak, ck, rfl⟩ := hpc.kids.slice
          obtain ⟨ac, cc, rfl⟩ := hpc.cond.slice
          obtain ⟨ae, ce, rfl⟩ := hpc.expr.slice
          obtain ⟨ak2, ck2, rfl⟩ := hpc2.kids.slice
          have eo : i * 9 = (k + 1) * 9 + j * 9 := by omega
          rw [eo] at d0 d1 d2 d3 d4 d5 d6 d7 d8
          change wr.cell? ⟨gu, (k + 1) * 9 + j * 9 + 1, none⟩ = some (.int .i64 (dOf ss i : Int)) at d1
          change wr.cell? ⟨gu, k * 9 + 1, none⟩ = some (.int .i64 (dOf ss k : Int)) at m1
          have q1 : (j : Int) < ((ss.length - (k + 1) : Nat) : Int) := by omega
          have q4 : (k : Int) < (ss.length : Int) := by omega
          have HUS := hid (u_step (k := k) hlj)
          have HUE := hid (u_stop (k := k) hlj)
          rw [← hi] at HU
          have HII := hid hi
          clear hi hc hpc hpc2 m3 m4 m5 m6 m7 m8 eo
          have hxA : Below wr.heap.size wr (wr.alloc (.cells #[.int .i64 (i : Int), .int .i64 (dOf ss i : Int), .slice ak (kidsL ss i).length ck, .int .i64 ss[i].kind, .int .i64 ss[i].parent, .string ss[i].name, .int .i64 ss[i].arg, .slice ac ss[i].cond.length cc, .slice ae ss[i].expr.length ce] 53)) := (Below.refl _ wr).alloc (Nat.le_refl _) _
          have HBA := hid (HBR.out.trans (hxA.mono HBR.out.size))
          have hown := HO.out.alloc (.cells #[.int .i64 (i : Int), .int .i64 (dOf ss i : Int), .slice ak (kidsL ss i).length ck, .int .i64 ss[i].kind, .int .i64 ss[i].parent, .string ss[i].name, .int .i64 ss[i].arg, .slice ac ss[i].cond.length cc, .slice ae ss[i].expr.length ce] 53)
          have HOA := hid hown
          have hzA : (wr.alloc (.cells #[.int .i64 (i : Int), .int .i64 (dOf ss i : Int), .slice ak (kidsL ss i).length ck, .int .i64 ss[i].kind, .int .i64 ss[i].parent, .string ss[i].name, .int .i64 ss[i].arg, .slice ac ss[i].cond.length cc, .slice ae ss[i].expr.length ce] 53)).heap.size = wr.heap.size + 1 := by simp
          have n0 : (wr.alloc (.cells #[.int .i64 (i : Int), .int .i64 (dOf ss i : Int), .slice ak (kidsL ss i).length ck, .int .i64 ss[i].kind, .int .i64 ss[i].parent, .string ss[i].name, .int .i64 ss[i].arg, .slice ac ss[i].cond.length cc, .slice ae ss[i].expr.length ce] 53)).drew.cell? ⟨wr.heap.size, 0, none⟩ = some (.int .i64 (i : Int)) := by go_simp
          have n1 : (wr.alloc (.cells #[.int .i64 (i : Int), .int .i64 (dOf ss i : Int), .slice ak (kidsL ss i).length ck, .int .i64 ss[i].kind, .int .i64 ss[i].parent, .string ss[i].name, .int .i64 ss[i].arg, .slice ac ss[i].cond.length cc, .slice ae ss[i].expr.length ce] 53)).drew.cell? ⟨wr.heap.size, 1, none⟩ = some (.int .i64 (dOf ss i : Int)) := by go_simp
          have n2 : (wr.alloc (.cells #[.int .i64 (i : Int), .int .i64 (dOf ss i : Int), .slice ak (kidsL ss i).length ck, .int .i64 ss[i].kind, .int .i64 ss[i].parent, .string ss[i].name, .int .i64 ss[i].arg, .slice ac ss[i].cond.length cc, .slice ae ss[i].expr.length ce] 53)).drew.cell? ⟨wr.heap.size, 2, none⟩ = some (.slice ak (kidsL ss i).length ck) := by go_simp
          have m0' : (wr.alloc (.cells #[.int .i64 (i : Int), .int .i64 (dOf ss i : Int), .slice ak (kidsL ss i).length ck, .int .i64 ss[i].kind, .int .i64 ss[i].parent, .string ss[i].name, .int .i64 ss[i].arg, .slice ac ss[i].cond.length cc, .slice ae ss[i].expr.length ce] 53)).drew.cell? ⟨gu, k * 9, none⟩ = some (.int .i64 (k : Int)) := (hxA.cell (p := ⟨gu, k * 9, none⟩) hg).trans m0
          have m1' : (wr.alloc (.cells #[.int .i64 (i : Int), .int .i64 (dOf ss i : Int), .slice ak (kidsL ss i).length ck, .int .i64 ss[i].kind, .int .i64 ss[i].parent, .string ss[i].name, .int .i64 ss[i].arg, .slice ac ss[i].cond.length cc, .slice ae ss[i].expr.length ce] 53)).drew.cell? ⟨gu, k * 9 + 1, none⟩ = some (.int .i64 (dOf ss k : Int)) := (hxA.cell (p := ⟨gu, k * 9 + 1, none⟩) hg).trans m1
          have m2' : (wr.alloc (.cells #[.int .i64 (i : Int), .int .i64 (dOf ss i : Int), .slice ak (kidsL ss i).length ck, .int .i64 ss[i].kind, .int .i64 ss[i].parent, .string ss[i].name, .int .i64 ss[i].arg, .slice ac ss[i].cond.length cc, .slice ae ss[i].expr.length ce] 53)).drew.cell? ⟨gu, k * 9 + 2, none⟩ = some (.slice ak2 (kidsL ss k).length ck2) := (hxA.cell (p := ⟨gu, k * 9 + 2, none⟩) hg).trans m2
          have M0 := hid m0'
          have M1 := hid m1'
          have M2 := hid m2'
          have N0 := hid n0
          have N1 := hid n1
          have N2 := hid n2
          clear hxA m0 m1 m2 m0' m1' m2' n0 n1 n2 hown
          go_wp2_with fail
          have m0 := M0.out
          have m1 := M1.out
          have m2 := M2.out
          have n0 := N0.out
          have n1 := N1.out
          have n2 := N2.out
          clear M0 M1 M2 N0 N1 N2 d0 d1 d2 d3 d4 d5 d6 d7 d8
          generalize wr.alloc (.cells #[.int .i64 (i : Int), .int .i64 (dOf ss i : Int), .slice ak (kidsL ss i).length ck, .int .i64 ss[i].kind, .int .i64 ss[i].parent, .string ss[i].name, .int .i64 ss[i].arg, .slice ac ss[i].cond.length cc, .slice ae ss[i].expr.length ce] 53) = wA at *
          generalize dOf ss i = di at *
          generalize dOf ss k = dk at *
          have hAd : Below wA.heap.size wA wA.drew := (Below.refl _ wA).drew
          have hgA : gu < wA.drew.heap.size := by show gu < wA.heap.size; omega
          have hwA : wr.heap.size < wA.drew.heap.size := by show wr.heap.size < wA.heap.size; omega
          by_cases hd : dk < di
          · have q5 : decide (dk < di) = true := by simp [hd]
            go_region_held3 (fun wx => wx.cell? ⟨wr.heap.size, 0, none⟩ = some (.int .i64 (i : Int)) ∧ wx.cell? ⟨wr.heap.size, 1, none⟩ = some (.int .i64 (di : Int)) ∧ wx.cell? ⟨wr.heap.size, 2, none⟩ = some (.slice ak (kidsL ss i).length ck) ∧ wx.cell? ⟨gu, k * 9, none⟩ = some (.int .i64 (k : Int)) ∧ wx.cell? ⟨gu, k * 9 + 1, none⟩ = some (.int .i64 (dk : Int)) ∧ wx.cell? ⟨gu, k * 9 + 2, none⟩ = some (.slice ak2 (kidsL ss k).length ck2) ∧ Below wA.heap.size wA wx) (refine ⟨?_, ?_, ?_, ?_, ?_, ?_, ?_⟩ <;> first | assumption | (simp [*]; done)) (first
              | (go_at_call 20; refine (isBelow _ _ di dk _ _ _ _ _ _ _).mono ?_; rintro e w4 ⟨rfl, hb4⟩; rw [q5]; have hB4 : Below wA.heap.size wA w4 := hAd.trans (hb4.mono (Nat.le_refl _)); have p0 := kept_cell hb4 hwA n0; have p1 := kept_cell hb4 hwA n1; have p2 := kept_cell hb4 hwA n2; have o0 := kept_cell hb4 hgA m0; have o1 := kept_cell hb4 hgA m1; have o2 := kept_cell hb4 hgA m2; have hw4 : wr.heap.size < w4.heap.size := Nat.lt_of_lt_of_le hwA hb4.size; clear hb4))
            have HX : Hid (underN ss k = (ks ++ [i]) ++ uFrom ss k (k + 1 + (j + 1))) := hid (by
              have e9 : k + 1 + (j + 1) = i + 1 := by have := HII.out; omega
              rw [HU.out, HUS.out hd, List.append_assoc, e9]; rfl)
            have hkl2 : ks.length ≤ i := by have := HII.out; omega
            have hown4 := Ints.owns_below HOA.out hB4
            have HB5 := hid (HBA.out.trans (hB4.mono HBA.out.size))
            clear HU HUS HUE
            go_wp2_with (at_builtin; go_must (refine wpList_append_own _ rfl _ _ 27 rfl w1.heap.size 2 j0 (.int .i64 0) 1 8 Tryz.underlying27 hj hy0 hy1 hy2 rfl (by decide) _ _ _ rfl (hown4.alloc _) ⟨w4.heap.size, 0, none⟩ 1 1 [.int .i64 (i : Int)] rfl rfl (cell_one_new _ _ _) (by simp [Value.oneCell']) (by unfold maxLen; omega) (by omega) (by simp; omega) ?_); intro v' w5 hown' hgrow _; obtain ⟨g9, c9, rfl⟩ := ownsRow_succ hown')
            have hB2 : Below w1.heap.size w1 w5 := (HB5.out.alloc HB5.out.size _).grown hgrow (by have := HB5.out.size; simp; omega) (fun b e => (Pt.own_lt hown4 e).1)
            refine ⟨⟨j + 1, ks ++ [i], by simp, by omega, by rw [List.length_append]; simp; omega, ⟨some ⟨g9, 0, none⟩, c9, by rw [List.length_append]; rfl⟩, hid ?_, HX, hid hB2⟩, by simp [intOf]; omega⟩
            simpa [kidVals] using hown'
          · have q5 : decide (dk < di) = false := by simp [hd]
            go_region_held3 (fun wx => wx.cell? ⟨wr.heap.size, 0, none⟩ = some (.int .i64 (i : Int)) ∧ wx.cell? ⟨wr.heap.size, 1, none⟩ = some (.int .i64 (di : Int)) ∧ wx.cell? ⟨wr.heap.size, 2, none⟩ = some (.slice ak (kidsL ss i).length ck) ∧ wx.cell? ⟨gu, k * 9, none⟩ = some (.int .i64 (k : Int)) ∧ wx.cell? ⟨gu, k * 9 + 1, none⟩ = some (.int .i64 (dk : Int)) ∧ wx.cell? ⟨gu, k * 9 + 2, none⟩ = some (.slice ak2 (kidsL ss k).length ck2) ∧ Below wA.heap.size wA wx) (refine ⟨?_, ?_, ?_, ?_, ?_, ?_, ?_⟩ <;> first | assumption | (simp [*]; done)) (first
              | (go_at_call 20; refine (isBelow _ _ di dk _ _ _ _ _ _ _).mono ?_; rintro e w4 ⟨rfl, hb4⟩; rw [q5]; have hB4 : Below wA.heap.size wA w4 := hAd.trans (hb4.mono (Nat.le_refl _)); have p0 := kept_cell hb4 hwA n0; have p1 := kept_cell hb4 hwA n1; have p2 := kept_cell hb4 hwA n2; have o0 := kept_cell hb4 hgA m0; have o1 := kept_cell hb4 hgA m1; have o2 := kept_cell hb4 hgA m2; have hw4 : wr.heap.size < w4.heap.size := Nat.lt_of_lt_of_le hwA hb4.size; clear hb4))
            have HX : Hid (underN ss k = ks) := hid (by rw [HU.out, HUE.out hd, List.append_nil])
            have HB5 := hid (HBA.out.trans (hB4.mono HBA.out.size))
            have HO5 := hid (Ints.owns_below HOA.out hB4)
            have s0 := kept_cell HB5.out l1 r0
            have s1 := kept_cell HB5.out l1 r1
            have t0 := kept_free HB5.out l1 f0
            have t1 := kept_free HB5.out l1 f1
            have l2 : w.heap.size < w4.heap.size := Nat.lt_of_lt_of_le l1 HB5.out.size
            have B2 := B1.trans (HB5.out.mono B1.size)
            clear HU HUS HUE r0 r1 f0 f1
            go_wp2
            refine bodyPost_ret (v := .agg #[.int .i64 0, .slice a5 ks.length c5]) (by simp [results, Tryz.results6, go_sem, s0, s1]) rfl ⟨⟨_, retI HV.out.1.symm, ?_⟩, setB (setB B2 (Nat.le_refl _) _) (Nat.le_refl _) _⟩
            rw [HV.out.2, intsOf_len, ← kidVals_eq, HX.out]
            exact own_set (own_set (own_mono HO5.out (by omega)) (by omega)) (by omega)
        · have HX : Hid (underN ss k = ks) := hid (by rw [HU.out, u_end (by omega), List.append_nil])
          have q1 : ¬ (j : Int) < ((ss.length - (k + 1) : Nat) : Int) := by omega
          have s0 := kept_cell HBR.out l1 r0
          have s1 := kept_cell HBR.out l1 r1
          have t0 := kept_free HBR.out l1 f0
          have t1 := kept_free HBR.out l1 f1
          have l2 : w.heap.size < wr.heap.size := Nat.lt_of_lt_of_le l1 HBR.out.size
          have B2 := B1.trans (HBR.out.mono B1.size)
          clear HU r0 r1 f0 f1
          go_wp2
          refine bodyPost_ret (v := .agg #[.int .i64 0, .slice a5 ks.length c5]) (by simp [results, Tryz.results6, go_sem, s0, s1]) rfl ⟨⟨_, retI HV.out.1.symm, ?_⟩, setB (setB B2 (Nat.le_refl _) _) (Nat.le_refl _) _⟩
          rw [HV.out.2, intsOf_len, ← kidVals_eq, HX.out]
          exact own_set (own_set (own_mono HO.out (by omega)) (by omega)) (by omega)
    · have HV := hid (under_range hf hr)
      clear hf hu1 hu2
      by_cases h0 : at' < 0
      · clear hr
        go_wp2
        refine bodyPost_ret (v := .agg #[.int .i64 3, .slice none 0 0]) (by simp [results, Tryz.results6, go_sem, r0, r1]) rfl ⟨⟨_, retI HV.out.1.symm, ?_⟩, setB (setB B1 (Nat.le_refl _) _) (Nat.le_refl _) _⟩
        rw [HV.out.2]
        exact World.ownsRow_nil _ _ _ _
      · have q2 : (ss.length : Int) ≤ at' := by omega
        clear hr
        go_wp2
        refine bodyPost_ret (v := .agg #[.int .i64 3, .slice none 0 0]) (by simp [results, Tryz.results6, go_sem, r0, r1]) rfl ⟨⟨_, retI HV.out.1.symm, ?_⟩, setB (setB B1 (Nat.le_refl _) _) (Nat.le_refl _) _⟩
        rw [HV.out.2]
        exact World.ownsRow_nil _ _ _ _
  · have HV := hid (under_fault (at' := at') hf)
    have b1 : (pFault ss != 0) = true := bne_iff_ne.2 hf
    obtain rfl := hu1 hf
    clear hf hu1 hu2
    go_wp2
    refine bodyPost_ret (v := .agg #[.int .i64 (pFault ss), .slice none 0 0]) (by simp [results, Tryz.results6, go_sem, r0, r1]) rfl ⟨⟨_, retI HV.out.1.symm, ?_⟩, setB (setB B1 (Nat.le_refl _) _) (Nat.le_refl _) _⟩
    rw [HV.out.2]
    exact World.ownsRow_nil _ _ _ _
end Pf
end Go.Proofs.YtlinknkcbbcfmaaGreatDoor
