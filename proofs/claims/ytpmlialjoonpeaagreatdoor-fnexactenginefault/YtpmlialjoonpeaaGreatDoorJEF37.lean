/- Laid together: PqU, FpM. -/
import Derived.Test.YtpmlialjoonpeaaGreatDoorJEF36
import Derived.Deep.RegionHeld3
/- A step and what is below it: plainly, and by the specification. -/
namespace Go.Proofs.YtpmlialjoonpeaaGreatDoor
open Go.RowKit
set_option linter.unusedVariables false
namespace Pf
open Ex (hid inR eFault specIn)
open Nd (NodeD)
open St (StepD)
open Tr (Chain cutTo onPath top nf ElemD)
open Pt (kidVals infoI64 info_parts)
open Ints (vals IntsAt)
def dOf (ss : List StepD) (i : Nat) : Nat := (path ss (i + 1)).length
/-- The places from i on, as long as they stand deeper than k. -/
def uFrom (ss : List StepD) (k i : Nat) : List Nat := (List.range' i (ss.length - i)).takeWhile fun j => decide (dOf ss k < dOf ss j)
theorem u_step {ss : List StepD} {k i : Nat} (hi : i < ss.length) (h : dOf ss k < dOf ss i) : uFrom ss k i = i :: uFrom ss k (i + 1) := by
  unfold uFrom
  rw [show ss.length - i = (ss.length - (i + 1)) + 1 by omega, List.range'_succ, List.takeWhile_cons, if_pos (by simpa using h)]
theorem u_stop {ss : List StepD} {k i : Nat} (hi : i < ss.length) (h : ¬ dOf ss k < dOf ss i) : uFrom ss k i = [] := by
  unfold uFrom
  rw [show ss.length - i = (ss.length - (i + 1)) + 1 by omega, List.range'_succ, List.takeWhile_cons, if_neg (by simpa using h)]
theorem u_end {ss : List StepD} {k i : Nat} (hi : ss.length ≤ i) : uFrom ss k i = [] := by
  unfold uFrom
  rw [show ss.length - i = 0 by omega]
  rfl
def underN (ss : List StepD) (k : Nat) : List Nat := k :: uFrom ss k (k + 1)
def underC (ss : List StepD) (at' : Int) : Int := if pFault ss ≠ 0 then pFault ss else if 0 ≤ at' ∧ at' < ss.length then 0 else 3
def underL (ss : List StepD) (at' : Int) : List Int := if underC ss at' = 0 then intsOf (underN ss at'.toNat) else []
theorem under_fault {ss : List StepD} {at' : Int} (h : pFault ss ≠ 0) : underC ss at' = pFault ss ∧ underL ss at' = [] := by
  have e : underC ss at' = pFault ss := by unfold underC; rw [if_pos h]
  exact ⟨e, by unfold underL; rw [if_neg (by rw [e]; exact h)]⟩
theorem under_range {ss : List StepD} {at' : Int} (h : pFault ss = 0) (h2 : ¬ (0 ≤ at' ∧ at' < ss.length)) : underC ss at' = 3 ∧ underL ss at' = [] := by
  have e : underC ss at' = 3 := by unfold underC; rw [if_neg (by simp [h]), if_neg h2]
  exact ⟨e, by unfold underL; rw [if_neg (by rw [e]; decide)]⟩
theorem under_ok {ss : List StepD} {k : Nat} (h : pFault ss = 0) (hk : k < ss.length) : underC ss k = 0 ∧ underL ss k = intsOf (underN ss k) := by
  have e : underC ss k = 0 := by unfold underC; rw [if_neg (by simp [h]), if_pos (by omega)]
  exact ⟨e, by unfold underL; rw [if_pos e, Int.toNat_natCast]⟩
theorem uFrom_le (ss : List StepD) (k i : Nat) : (uFrom ss k i).length ≤ ss.length - i := by
  unfold uFrom
  have := List.takeWhile_sublist (l := List.range' i (ss.length - i)) (fun j => decide (dOf ss k < dOf ss j)) |>.length_le
  simpa using this
theorem underL_len {ss : List StepD} {at' : Int} : (underL ss at').length ≤ ss.length := by
  unfold underL
  split
  · rename_i h
    have hr : 0 ≤ at' ∧ at' < ss.length := by
      unfold underC at h
      by_cases hf : pFault ss ≠ 0
      · rw [if_pos hf] at h; exact absurd h hf
      · rw [if_neg hf] at h
        by_cases h2 : 0 ≤ at' ∧ at' < ss.length
        · exact h2
        · rw [if_neg h2] at h; omega
    rw [intsOf_len, underN, List.length_cons]
    have := uFrom_le ss at'.toNat (at'.toNat + 1)
    omega
  · exact Nat.zero_le _
theorem row_one (w : World) (k : Nat) : (w.alloc (.cells #[.int .i64 (k : Int)] 2)).ownsRow w.heap.size 2 1 (.slice (some ⟨w.heap.size, 0, none⟩) 1 1) 1 (kidVals [k]) :=
  ⟨rfl, .inr ⟨w.heap.size, 1, #[.int .i64 (k : Int)], rfl, Nat.le_refl _, World.alloc_heap_new w _, Nat.le_refl _, by unfold maxLen; omega, rfl, rfl⟩⟩
set_option maxRecDepth 100000 in
set_option maxHeartbeats 8000000 in
theorem specUnder (B : Nat) (ss : List StepD) (v : Value) (k : Nat) (w : World) (hl : ss.length ≤ 24) (hk : k < ss.length) (h1 : firstC (oneC ss) ss.length = 0) (ha : St.At w B v ss) :
    Calls Tryz.prog 140 #[v, .int .i64 (k : Int)] w fun e w' => (∃ u, e = .returned u ∧ w'.ownsRow w.heap.size 2 1 u (underN ss k).length (kidVals (underN ss k))) ∧ Below w.heap.size w w' := by
  obtain ⟨a, cap, rfl⟩ := ha.slice
  have HA := hid ha
  have H1 := hid h1
  clear ha h1
  obtain ⟨j0, hj, hy0, hy1, hy2⟩ := info_parts infoI64
  have HM : Hid ((w.alloc (.cells #[.int .i64 (k : Int)] 2)).ownsRow w.heap.size 2 1 (.slice (some ⟨w.heap.size, 0, none⟩) 1 1) 1 (kidVals [k])) := hid (row_one w k)
  go_enter Tryz.func140, Tryz.ntmps140
  go_wp2
  go_loopw [5, 6] (fun o x wr => ∃ (i : Nat) (ks : List Nat), x = .int .i64 i ∧ k < i ∧ i ≤ ss.length ∧ ks.length ≤ i ∧ (∃ a5 c5, o = .slice a5 ks.length c5) ∧ Hid (wr.ownsRow w.heap.size 2 1 o ks.length (kidVals ks)) ∧ Hid (underN ss k = ks ++ uFrom ss k i) ∧ Hid (Below w.heap.size w wr)) (fun _ x _ => ss.length - (intOf x).toNat)
  case atStart => exact ⟨k + 1, [k], by simp, by omega, by omega, by simp, ⟨_, _, rfl⟩, HM, hid rfl, hid ((Below.refl _ w).alloc (Nat.le_refl _) _)⟩
  case round =>
    obtain ⟨i, ks, rfl, hki, hi, hkl, ⟨a5, c5, rfl⟩, HO, HU, HBR⟩ := hrel
    have hz := HBR.out.size
    by_cases hlt : i < ss.length
    · have q1 : (i : Int) < (ss.length : Int) := by omega
      have HD : Hid (∀ (j : Nat) (z : Int), j < ss.length → z = (j : Int) → Calls Tryz.prog 157 #[.slice a ss.length cap, .int .i64 z] wr fun e w' => e = .returned (.int .i64 (dOf ss j : Int)) ∧ w' = wr) := hid (fun j z hjl hz => by rw [hz]; exact specDeepAt B ss _ j wr hl hjl H1.out (HA.out.below HBR.out))
      have HUS := hid (u_step (k := k) hlt)
      have HUE := hid (u_stop (k := k) hlt)
      have HDi := hid (HD.out i i hlt rfl)
      have HDk := hid (HD.out k k hk rfl)
      clear HD
      have hown := HO.out
      generalize dOf ss i = di at *
      generalize dOf ss k = dk at *
      go_wp2_with fail
      refine HDi.out.mono ?_
      rintro e w2 ⟨rfl, hw2⟩
      replace hw2 := hw2.symm
      subst hw2
      go_wp2_with fail
      refine HDk.out.mono ?_
      rintro e w2 ⟨rfl, hw2⟩
      replace hw2 := hw2.symm
      subst hw2
      by_cases hd : dk < di
      · have q2 : (dk : Int) < (di : Int) := by omega
        have HX : Hid (underN ss k = (ks ++ [i]) ++ uFrom ss k (i + 1)) := hid (by rw [HU.out, HUS.out hd, List.append_assoc]; rfl)
        clear HU HUS HUE hd HDi HDk
        go_wp2_with (at_builtin; go_must (refine wpList_append_own _ rfl _ _ 45 rfl w.heap.size 2 j0 (.int .i64 0) 1 8 Tryz.underlying45 hj hy0 hy1 hy2 rfl (by decide) _ _ _ rfl (hown.alloc _) ⟨wr.heap.size, 0, none⟩ 1 1 [.int .i64 (i : Int)] rfl rfl (cell_one_new _ _ _) (by simp [Value.oneCell']) (by unfold maxLen; omega) (by omega) (by simp; omega) ?_); intro v' w2 hown' hgrow _; obtain ⟨g9, c9, rfl⟩ := ownsRow_succ hown')
        have hB2 : Below w.heap.size w w2 := (HBR.out.alloc hz _).grown hgrow (by simp; omega) (fun b e => (Pt.own_lt hown e).1)
        refine ⟨⟨i + 1, ks ++ [i], by simp, by omega, by omega, by rw [List.length_append]; simp; omega, ⟨some ⟨g9, 0, none⟩, c9, by rw [List.length_append]; rfl⟩, hid ?_, HX, hid hB2⟩, by simp [intOf]; omega⟩
        simpa [kidVals] using hown'
      · have q2 : ¬ (dk : Int) < (di : Int) := by omega
        have HX : Hid (underN ss k = ks) := hid (by rw [HU.out, HUE.out hd, List.append_nil])
        clear HU HUS HUE hd HDi HDk
        go_wp2
        go_ret
        exact ⟨⟨_, rfl, by rw [HX.out]; exact HO.out⟩, HBR.out⟩
    · have HX : Hid (underN ss k = ks) := hid (by rw [HU.out, u_end (by omega), List.append_nil])
      have q1 : ¬ (i : Int) < (ss.length : Int) := by omega
      clear HU
      go_wp2
      go_ret
      exact ⟨⟨_, rfl, by rw [HX.out]; exact HO.out⟩, HBR.out⟩
set_option maxRecDepth 100000 in
set_option maxHeartbeats 1000000 in
theorem isBelow (x0 y0 : Int) (x1 y1 : Nat) (a b : Option Addr) (n cap m c : Nat) (w : World) :
    Calls Tryz.prog 193 #[.agg #[.int .i64 x0, .int .i64 (x1 : Int), .slice a n cap], .agg #[.int .i64 y0, .int .i64 (y1 : Int), .slice b m c]] w fun e w' => e = .returned (.bool (decide (y1 < x1))) ∧ Below w.heap.size w w' := by
  by_cases h : y1 < x1
  · have q : (y1 : Int) < (x1 : Int) := by omega
    have HV : Hid (decide (y1 < x1) = true) := hid (by simp [h])
    rw [HV.out]
    clear HV
    go_enter Tryz.func193, Tryz.ntmps193
    go_wp2
    go_ret
    exact ⟨by simp, ((Below.refl _ w).alloc (Nat.le_refl _) _).alloc (by simp) _⟩
  · have q : ¬ (y1 : Int) < (x1 : Int) := by omega
    have HV : Hid (decide (y1 < x1) = false) := hid (by simp [h])
    rw [HV.out]
    clear HV
    go_enter Tryz.func193, Tryz.ntmps193
    go_wp2
    go_ret
    exact ⟨by simp, ((Below.refl _ w).alloc (Nat.le_refl _) _).alloc (by simp) _⟩
end Pf
end Go.Proofs.YtpmlialjoonpeaaGreatDoor
/- What is under a step, as plain facts: it stands in one piece; nothing is under leaves; all is under the first. -/
namespace Go.Proofs.YtpmlialjoonpeaaGreatDoor
set_option linter.unusedVariables false
namespace Pf
open St (StepD)
open Tr (Chain cutTo onPath top nf ElemD cut_no cut_le top_cut)
theorem take_range (p : Nat → Bool) : ∀ (n s : Nat), ∃ m, m ≤ n ∧ (List.range' s n).takeWhile p = List.range' s m
  | 0, s => ⟨0, Nat.le_refl _, rfl⟩
  | n + 1, s => by
    rw [List.range'_succ, List.takeWhile_cons]
    by_cases h : p s = true
    · rw [if_pos h]
      obtain ⟨m, hm, e⟩ := take_range p n (s + 1)
      exact ⟨m + 1, by omega, by rw [e, List.range'_succ]⟩
    · rw [if_neg h]
      exact ⟨0, Nat.zero_le _, rfl⟩
theorem under_range' (ss : List StepD) (k : Nat) : ∃ m, underN ss k = List.range' k (m + 1) := by
  obtain ⟨m, _, e⟩ := take_range (fun j => decide (dOf ss k < dOf ss j)) (ss.length - (k + 1)) (k + 1)
  refine ⟨m, ?_⟩
  unfold underN uFrom
  rw [e, List.range'_succ]
theorem under_get {ss : List StepD} {k q : Nat} (h : q < (intsOf (underN ss k)).length) : (intsOf (underN ss k))[q] = (k : Int) + (q : Int) := by
  obtain ⟨m, e⟩ := under_range' ss k
  have : ∀ (l : List Nat) (hq : q < (intsOf l).length), l = List.range' k (m + 1) → (intsOf l)[q] = (k : Int) + (q : Int) := by
    intro l hq hl
    subst hl
    simp [intsOf]
  exact this _ h e
theorem deep_one (ss : List StepD) (i : Nat) : 1 ≤ dOf ss i := by
  unfold dOf
  rw [path]
  simp
theorem leaf_kids {ss : List StepD} {k : Nat} (hp : pFault ss = 0) (hk : k < ss.length) (hl : leafK (PJ ss k).kind = true) : kidsL ss k = [] := by
  have h := first_all (of_p hp).2.2.1 hk
  have hm : manyOk (PJ ss k).kind (kidsL ss k).length = true := by
    cases hx : manyOk (PJ ss k).kind (kidsL ss k).length
    · rw [link_many hx] at h; cases h
    · rfl
  have h3 : (PJ ss k).kind = 2 ∨ (PJ ss k).kind = 5 ∨ (PJ ss k).kind = 6 := by
    unfold leafK at hl
    simp at hl
    omega
  unfold manyOk at hm
  rw [if_neg (by omega), if_neg (by omega), if_neg (by omega)] at hm
  exact List.eq_nil_of_length_eq_zero (by simpa using hm)
theorem not_kid {ss : List StepD} {k i : Nat} (h : kidsL ss k = []) (hi : i < ss.length) : (PJ ss i).parent ≠ (k : Int) := by
  intro e
  have : i ∈ kidsL ss k := by
    unfold kidsL kidsN
    rw [List.mem_filter]
    exact ⟨List.mem_range.2 hi, by simp [e]⟩
  rw [h] at this
  cases this
theorem leaf_under {ss : List StepD} {k : Nat} (hp : pFault ss = 0) (hk : k < ss.length) (hl : leafK (PJ ss k).kind = true) : underN ss k = [k] := by
  unfold underN
  by_cases h : k + 1 < ss.length
  · have hn := not_kid (leaf_kids hp hk hl) h
    rw [u_stop h]
    intro hd
    have e1 : dOf ss (k + 1) = (cutTo (PJ ss (k + 1)).parent (k :: cutTo (PJ ss k).parent (path ss k))).length + 1 := rfl
    have e2 : dOf ss k = (cutTo (PJ ss k).parent (path ss k)).length + 1 := rfl
    rw [e1, e2, cut_no (fun e => hn e.symm)] at hd
    have := cut_le (p := (PJ ss (k + 1)).parent) (S := cutTo (PJ ss k).parent (path ss k))
    omega
  · rw [u_end (by omega)]
theorem first_deep {ss : List StepD} {i : Nat} (hp : pFault ss = 0) (hi : i < ss.length) (h0 : 0 < i) : dOf ss 0 < dOf ss i := by
  have h := of_one (first_all (of_p hp).2.1 hi)
  have hon : onPath (PJ ss i).parent (path ss i) = true := by
    cases hx : onPath (PJ ss i).parent (path ss i)
    · exact absurd ⟨h0, hx⟩ h.2.2.1
    · rfl
  unfold dOf
  rw [path, path, path]
  have : cutTo (PJ ss i).parent (path ss i) ≠ [] := by
    intro e
    have h2 := top_cut hon
    rw [e] at h2
    have := Tr.on_nonneg hon
    rw [← h2] at this
    exact absurd this (by decide)
  have h5 : 0 < (cutTo (PJ ss i).parent (path ss i)).length := by
    cases hx : cutTo (PJ ss i).parent (path ss i) with
    | nil => exact absurd hx this
    | cons a r => simp
  have h6 : (cutTo (PJ ss 0).parent ([] : List Nat)).length = 0 := rfl
  rw [List.length_cons, List.length_cons, h6]
  omega
theorem all_from {ss : List StepD} (hp : pFault ss = 0) : ∀ (n i : Nat), i + n = ss.length → 0 < i → (uFrom ss 0 i).length = n
  | 0, i, h, h0 => by rw [u_end (by omega)]; rfl
  | n + 1, i, h, h0 => by
    rw [u_step (by omega) (first_deep hp (by omega) h0), List.length_cons, all_from hp n (i + 1) (by omega) (by omega)]
theorem all_under {ss : List StepD} (hp : pFault ss = 0) : (underN ss 0).length = ss.length := by
  have h1 := (of_p hp).1
  unfold underN
  rw [List.length_cons, all_from hp (ss.length - 1) (0 + 1) (by omega) (by omega)]
  omega
theorem deep_pos {ss : List StepD} : ∀ {n : Nat}, 0 < n → 1 ≤ deepN ss n
  | n + 1, _ => by
    have := deep_one ss n
    unfold dOf at this
    rw [deepN]
    omega
theorem leaf_mem {ss : List StepD} {q : Nat} (h : q < (intsOf (leavesN ss ss.length)).length) : ∃ k : Nat, k < ss.length ∧ leafK (PJ ss k).kind = true ∧ (intsOf (leavesN ss ss.length))[q] = (k : Int) := by
  rw [intsOf_len] at h
  have hm := List.getElem_mem h
  have h2 : (leavesN ss ss.length)[q] ∈ (List.range ss.length).filter fun i => leafK (PJ ss i).kind := hm
  rw [List.mem_filter] at h2
  exact ⟨(leavesN ss ss.length)[q], List.mem_range.1 h2.1, h2.2, by simp [intsOf]⟩
end Pf
end Go.Proofs.YtpmlialjoonpeaaGreatDoor
