/- A step and what is below it: plainly, and by the specification. -/
import Derived.Test.YtbojdlkibffcjaaDoorPqB
import Derived.Deep.RegionHeld3
namespace Go.Proofs.YtbojdlkibffcjaaDoor
open Go.RowKit
set_option linter.unusedVariables false
namespace Pf
open Ex (hid inR eFault specIn)
open Nd (NodeD)
open St (StepD)
open Tr (Chain cutTo onPath top nf ElemD)
open Pt (kidVals infoI64 info_parts)
open Ints (vals IntsAt)
def dOf (ss : List StepD) (i : Nat) : Nat := (path ss (i + 1)).length
/-- The places from i on, as long as they stand deeper than k. -/
def uFrom (ss : List StepD) (k i : Nat) : List Nat := (List.range' i (ss.length - i)).takeWhile fun j => decide (dOf ss k < dOf ss j)
theorem u_step {ss : List StepD} {k i : Nat} (hi : i < ss.length) (h : dOf ss k < dOf ss i) : uFrom ss k i = i :: uFrom ss k (i + 1) := by
  unfold uFrom
  rw [show ss.length - i = (ss.length - (i + 1)) + 1 by omega, List.range'_succ, List.takeWhile_cons, if_pos (by simpa using h)]
theorem u_stop {ss : List StepD} {k i : Nat} (hi : i < ss.length) (h : ¬ dOf ss k < dOf ss i) : uFrom ss k i = [] := by
  unfold uFrom
  rw [show ss.length - i = (ss.length - (i + 1)) + 1 by omega, List.range'_succ, List.takeWhile_cons, if_neg (by simpa using h)]
theorem u_end {ss : List StepD} {k i : Nat} (hi : ss.length ≤ i) : uFrom ss k i = [] := by
  unfold uFrom
  rw [show ss.length - i = 0 by omega]
  rfl
def underN (ss : List StepD) (k : Nat) : List Nat := k :: uFrom ss k (k + 1)
def underC (ss : List StepD) (at' : Int) : Int := if pFault ss ≠ 0 then pFault ss else if 0 ≤ at' ∧ at' < ss.length then 0 else 3
def underL (ss : List StepD) (at' : Int) : List Int := if underC ss at' = 0 then intsOf (underN ss at'.toNat) else []
theorem under_fault {ss : List StepD} {at' : Int} (h : pFault ss ≠ 0) : underC ss at' = pFault ss ∧ underL ss at' = [] := by
  have e : underC ss at' = pFault ss := by unfold underC; rw [if_pos h]
  exact ⟨e, by unfold underL; rw [if_neg (by rw [e]; exact h)]⟩
theorem under_range {ss : List StepD} {at' : Int} (h : pFault ss = 0) (h2 : ¬ (0 ≤ at' ∧ at' < ss.length)) : underC ss at' = 3 ∧ underL ss at' = [] := by
  have e : underC ss at' = 3 := by unfold underC; rw [if_neg (by simp [h]), if_neg h2]
  exact ⟨e, by unfold underL; rw [if_neg (by rw [e]; decide)]⟩
theorem under_ok {ss : List StepD} {k : Nat} (h : pFault ss = 0) (hk : k < ss.length) : underC ss k = 0 ∧ underL ss k = intsOf (underN ss k) := by
  have e : underC ss k = 0 := by unfold underC; rw [if_neg (by simp [h]), if_pos (by omega)]
  exact ⟨e, by unfold underL; rw [if_pos e, Int.toNat_natCast]⟩
theorem uFrom_le (ss : List StepD) (k i : Nat) : (uFrom ss k i).length ≤ ss.length - i := by
  unfold uFrom
  have := List.takeWhile_sublist (l := List.range' i (ss.length - i)) (fun j => decide (dOf ss k < dOf ss j)) |>.length_le
  simpa using this
theorem underL_len {ss : List StepD} {at' : Int} : (underL ss at').length ≤ ss.length := by
  unfold underL
  split
  · rename_i h
    have hr : 0 ≤ at' ∧ at' < ss.length := by
      unfold underC at h
      by_cases hf : pFault ss ≠ 0
      · rw [if_pos hf] at h; exact absurd h hf
      · rw [if_neg hf] at h
        by_cases h2 : 0 ≤ at' ∧ at' < ss.length
        · exact h2
        · rw [if_neg h2] at h; omega
    rw [intsOf_len, underN, List.length_cons]
    have := uFrom_le ss at'.toNat (at'.toNat + 1)
    omega
  · exact Nat.zero_le _
theorem row_one (w : World) (k : Nat) : (w.alloc (.cells #[.int .i64 (k : Int)] 2)).ownsRow w.heap.size 2 1 (.slice (some ⟨w.heap.size, 0, none⟩) 1 1) 1 (kidVals [k]) :=
  ⟨rfl, .inr ⟨w.heap.size, 1, #[.int .i64 (k : Int)], rfl, Nat.le_refl _, World.alloc_heap_new w _, Nat.le_refl _, by unfold maxLen; omega, rfl, rfl⟩⟩
set_option maxRecDepth 100000 in
set_option maxHeartbeats 8000000 in
theorem specUnder (B : Nat) (ss : List StepD) (v : Value) (k : Nat) (w : World) (hl : ss.length ≤ 24) (hk : k < ss.length) (h1 : firstC (oneC ss) ss.length = 0) (ha : St.At w B v ss) :
    Calls Tryd.prog 16 #[v, .int .i64 (k : Int)] w fun e w' => (∃ u, e = .returned u ∧ w'.ownsRow w.heap.size 2 1 u (underN ss k).length (kidVals (underN ss k))) ∧ Below w.heap.size w w' := by
  obtain ⟨a, cap, rfl⟩ := ha.slice
  have HA := hid ha
  have H1 := hid h1
  clear ha h1
  obtain ⟨j0, hj, hy0, hy1, hy2⟩ := info_parts infoI64
  have HM : Hid ((w.alloc (.cells #[.int .i64 (k : Int)] 2)).ownsRow w.heap.size 2 1 (.slice (some ⟨w.heap.size, 0, none⟩) 1 1) 1 (kidVals [k])) := hid (row_one w k)
  go_enter Tryd.func16, Tryd.ntmps16
  go_wp2
  go_loopw [5, 6] (fun o x wr => ∃ (i : Nat) (ks : List Nat), x = .int .i64 i ∧ k < i ∧ i ≤ ss.length ∧ ks.length ≤ i ∧ (∃ a5 c5, o = .slice a5 ks.length c5) ∧ Hid (wr.ownsRow w.heap.size 2 1 o ks.length (kidVals ks)) ∧ Hid (underN ss k = ks ++ uFrom ss k i) ∧ Hid (Below w.heap.size w wr)) (fun _ x _ => ss.length - (intOf x).toNat)
  case atStart => exact ⟨k + 1, [k], by simp, by omega, by omega, by simp, ⟨_, _, rfl⟩, HM, hid rfl, hid ((Below.refl _ w).alloc (Nat.le_refl _) _)⟩
  case round =>
    obtain ⟨i, ks, rfl, hki, hi, hkl, ⟨a5, c5, rfl⟩, HO, HU, HBR⟩ := hrel
    have hz := HBR.out.size
    by_cases hlt : i < ss.length
    · have q1 : (i : Int) < (ss.length : Int) := by omega
      have HD : Hid (∀ (j : Nat) (z : Int), j < ss.length → z = (j : Int) → Calls Tryd.prog 31 #[.slice a ss.length cap, .int .i64 z] wr fun e w' => e = .returned (.int .i64 (dOf ss j : Int)) ∧ w' = wr) := hid (fun j z hjl hz => by rw [hz]; exact specDeepAt B ss _ j wr hl hjl H1.out (HA.out.below HBR.out))
      have HUS := hid (u_step (k := k) hlt)
      have HUE := hid (u_stop (k := k) hlt)
      have HDi := hid (HD.out i i hlt rfl)
      have HDk := hid (HD.out k k hk rfl)
      clear HD
      have hown := HO.out
      generalize dOf ss i = di at *
      generalize dOf ss k = dk at *
      go_wp2_with fail
      refine HDi.out.mono ?_
      rintro e w2 ⟨rfl, hw2⟩
      replace hw2 := hw2.symm
      subst hw2
      go_wp2_with fail
      refine HDk.out.mono ?_
      rintro e w2 ⟨rfl, hw2⟩
      replace hw2 := hw2.symm
      subst hw2
      by_cases hd : dk < di
      · have q2 : (dk : Int) < (di : Int) := by omega
        have HX : Hid (underN ss k = (ks ++ [i]) ++ uFrom ss k (i + 1)) := hid (by rw [HU.out, HUS.out hd, List.append_assoc]; rfl)
        clear HU HUS HUE hd HDi HDk
        go_wp2_with (at_builtin; go_must (refine wpList_append_own _ rfl _ _ 24 rfl w.heap.size 2 j0 (.int .i64 0) 1 8 Tryd.underlying24 hj hy0 hy1 hy2 rfl (by decide) _ _ _ rfl (hown.alloc _) ⟨wr.heap.size, 0, none⟩ 1 1 [.int .i64 (i : Int)] rfl rfl (cell_one_new _ _ _) (by simp [Value.oneCell']) (by unfold maxLen; omega) (by omega) (by simp; omega) ?_); intro v' w2 hown' hgrow _; obtain ⟨g9, c9, rfl⟩ := ownsRow_succ hown')
        have hB2 : Below w.heap.size w w2 := (HBR.out.alloc hz _).grown hgrow (by simp; omega) (fun b e => (Pt.own_lt hown e).1)
        refine ⟨⟨i + 1, ks ++ [i], by simp, by omega, by omega, by rw [List.length_append]; simp; omega, ⟨some ⟨g9, 0, none⟩, c9, by rw [List.length_append]; rfl⟩, hid ?_, HX, hid hB2⟩, by simp [intOf]; omega⟩
        simpa [kidVals] using hown'
      · have q2 : ¬ (dk : Int) < (di : Int) := by omega
        have HX : Hid (underN ss k = ks) := hid (by rw [HU.out, HUE.out hd, List.append_nil])
        clear HU HUS HUE hd HDi HDk
        go_wp2
        go_ret
        exact ⟨⟨_, rfl, by rw [HX.out]; exact HO.out⟩, HBR.out⟩
    · have HX : Hid (underN ss k = ks) := hid (by rw [HU.out, u_end (by omega), List.append_nil])
      have q1 : ¬ (i : Int) < (ss.length : Int) := by omega
      clear HU
      go_wp2
      go_ret
      exact ⟨⟨_, rfl, by rw [HX.out]; exact HO.out⟩, HBR.out⟩
set_option maxRecDepth 100000 in
set_option maxHeartbeats 1000000 in
theorem isBelow (x0 y0 : Int) (x1 y1 : Nat) (a b : Option Addr) (n cap m c : Nat) (w : World) :
    Calls Tryd.prog 37 #[.agg #[.int .i64 x0, .int .i64 (x1 : Int), .slice a n cap], .agg #[.int .i64 y0, .int .i64 (y1 : Int), .slice b m c]] w fun e w' => e = .returned (.bool (decide (y1 < x1))) ∧ Below w.heap.size w w' := by
  by_cases h : y1 < x1
  · have q : (y1 : Int) < (x1 : Int) := by omega
    have HV : Hid (decide (y1 < x1) = true) := hid (by simp [h])
    rw [HV.out]
    clear HV
    go_enter Tryd.func37, Tryd.ntmps37
    go_wp2
    go_ret
    exact ⟨by simp, ((Below.refl _ w).alloc (Nat.le_refl _) _).alloc (by simp) _⟩
  · have q : ¬ (y1 : Int) < (x1 : Int) := by omega
    have HV : Hid (decide (y1 < x1) = false) := hid (by simp [h])
    rw [HV.out]
    clear HV
    go_enter Tryd.func37, Tryd.ntmps37
    go_wp2
    go_ret
    exact ⟨by simp, ((Below.refl _ w).alloc (Nat.le_refl _) _).alloc (by simp) _⟩
end Pf
end Go.Proofs.YtbojdlkibffcjaaDoor
