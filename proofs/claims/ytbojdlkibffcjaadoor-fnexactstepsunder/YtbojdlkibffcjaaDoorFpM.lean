/- What is under a step, as plain facts: it stands in one piece; nothing is under leaves; all is under the first. -/
import Derived.Test.YtbojdlkibffcjaaDoorPqU
namespace Go.Proofs.YtbojdlkibffcjaaDoor
set_option linter.unusedVariables false
namespace Pf
open St (StepD)
open Tr (Chain cutTo onPath top nf ElemD cut_no cut_le top_cut)
theorem take_range (p : Nat → Bool) : ∀ (n s : Nat), ∃ m, m ≤ n ∧ (List.range' s n).takeWhile p = List.range' s m
  | 0, s => ⟨0, Nat.le_refl _, rfl⟩
  | n + 1, s => by
    rw [List.range'_succ, List.takeWhile_cons]
    by_cases h : p s = true
    · rw [if_pos h]
      obtain ⟨m, hm, e⟩ := take_range p n (s + 1)
      exact ⟨m + 1, by omega, by rw [e, List.range'_succ]⟩
    · rw [if_neg h]
      exact ⟨0, Nat.zero_le _, rfl⟩
theorem under_range' (ss : List StepD) (k : Nat) : ∃ m, underN ss k = List.range' k (m + 1) := by
  obtain ⟨m, _, e⟩ := take_range (fun j => decide (dOf ss k < dOf ss j)) (ss.length - (k + 1)) (k + 1)
  refine ⟨m, ?_⟩
  unfold underN uFrom
  rw [e, List.range'_succ]
theorem under_get {ss : List StepD} {k q : Nat} (h : q < (intsOf (underN ss k)).length) : (intsOf (underN ss k))[q] = (k : Int) + (q : Int) := by
  obtain ⟨m, e⟩ := under_range' ss k
  have : ∀ (l : List Nat) (hq : q < (intsOf l).length), l = List.range' k (m + 1) → (intsOf l)[q] = (k : Int) + (q : Int) := by
    intro l hq hl
    subst hl
    simp [intsOf]
  exact this _ h e
theorem deep_one (ss : List StepD) (i : Nat) : 1 ≤ dOf ss i := by
  unfold dOf
  rw [path]
  simp
theorem leaf_kids {ss : List StepD} {k : Nat} (hp : pFault ss = 0) (hk : k < ss.length) (hl : leafK (PJ ss k).kind = true) : kidsL ss k = [] := by
  have h := first_all (of_p hp).2.2.1 hk
  have hm : manyOk (PJ ss k).kind (kidsL ss k).length = true := by
    cases hx : manyOk (PJ ss k).kind (kidsL ss k).length
    · rw [link_many hx] at h; cases h
    · rfl
  have h3 : (PJ ss k).kind = 2 ∨ (PJ ss k).kind = 5 ∨ (PJ ss k).kind = 6 := by
    unfold leafK at hl
    simp at hl
    omega
  unfold manyOk at hm
  rw [if_neg (by omega), if_neg (by omega), if_neg (by omega)] at hm
  exact List.eq_nil_of_length_eq_zero (by simpa using hm)
theorem not_kid {ss : List StepD} {k i : Nat} (h : kidsL ss k = []) (hi : i < ss.length) : (PJ ss i).parent ≠ (k : Int) := by
  intro e
  have : i ∈ kidsL ss k := by
    unfold kidsL kidsN
    rw [List.mem_filter]
    exact ⟨List.mem_range.2 hi, by simp [e]⟩
  rw [h] at this
  cases this
theorem leaf_under {ss : List StepD} {k : Nat} (hp : pFault ss = 0) (hk : k < ss.length) (hl : leafK (PJ ss k).kind = true) : underN ss k = [k] := by
  unfold underN
  by_cases h : k + 1 < ss.length
  · have hn := not_kid (leaf_kids hp hk hl) h
    rw [u_stop h]
    intro hd
    have e1 : dOf ss (k + 1) = (cutTo (PJ ss (k + 1)).parent (k :: cutTo (PJ ss k).parent (path ss k))).length + 1 := rfl
    have e2 : dOf ss k = (cutTo (PJ ss k).parent (path ss k)).length + 1 := rfl
    rw [e1, e2, cut_no (fun e => hn e.symm)] at hd
    have := cut_le (p := (PJ ss (k + 1)).parent) (S := cutTo (PJ ss k).parent (path ss k))
    omega
  · rw [u_end (by omega)]
theorem first_deep {ss : List StepD} {i : Nat} (hp : pFault ss = 0) (hi : i < ss.length) (h0 : 0 < i) : dOf ss 0 < dOf ss i := by
  have h := of_one (first_all (of_p hp).2.1 hi)
  have hon : onPath (PJ ss i).parent (path ss i) = true := by
    cases hx : onPath (PJ ss i).parent (path ss i)
    · exact absurd ⟨h0, hx⟩ h.2.2.1
    · rfl
  unfold dOf
  rw [path, path, path]
  have : cutTo (PJ ss i).parent (path ss i) ≠ [] := by
    intro e
    have h2 := top_cut hon
    rw [e] at h2
    have := Tr.on_nonneg hon
    rw [← h2] at this
    exact absurd this (by decide)
  have h5 : 0 < (cutTo (PJ ss i).parent (path ss i)).length := by
    cases hx : cutTo (PJ ss i).parent (path ss i) with
    | nil => exact absurd hx this
    | cons a r => simp
  have h6 : (cutTo (PJ ss 0).parent ([] : List Nat)).length = 0 := rfl
  rw [List.length_cons, List.length_cons, h6]
  omega
theorem all_from {ss : List StepD} (hp : pFault ss = 0) : ∀ (n i : Nat), i + n = ss.length → 0 < i → (uFrom ss 0 i).length = n
  | 0, i, h, h0 => by rw [u_end (by omega)]; rfl
  | n + 1, i, h, h0 => by
    rw [u_step (by omega) (first_deep hp (by omega) h0), List.length_cons, all_from hp n (i + 1) (by omega) (by omega)]
theorem all_under {ss : List StepD} (hp : pFault ss = 0) : (underN ss 0).length = ss.length := by
  have h1 := (of_p hp).1
  unfold underN
  rw [List.length_cons, all_from hp (ss.length - 1) (0 + 1) (by omega) (by omega)]
  omega
theorem deep_pos {ss : List StepD} : ∀ {n : Nat}, 0 < n → 1 ≤ deepN ss n
  | n + 1, _ => by
    have := deep_one ss n
    unfold dOf at this
    rw [deepN]
    omega
theorem leaf_mem {ss : List StepD} {q : Nat} (h : q < (intsOf (leavesN ss ss.length)).length) : ∃ k : Nat, k < ss.length ∧ leafK (PJ ss k).kind = true ∧ (intsOf (leavesN ss ss.length))[q] = (k : Int) := by
  rw [intsOf_len] at h
  have hm := List.getElem_mem h
  have h2 : (leavesN ss ss.length)[q] ∈ (List.range ss.length).filter fun i => leafK (PJ ss i).kind := hm
  rw [List.mem_filter] at h2
  exact ⟨(leavesN ss ss.length)[q], List.mem_range.1 h2.1, h2.2, by simp [intsOf]⟩
end Pf
end Go.Proofs.YtbojdlkibffcjaaDoor
