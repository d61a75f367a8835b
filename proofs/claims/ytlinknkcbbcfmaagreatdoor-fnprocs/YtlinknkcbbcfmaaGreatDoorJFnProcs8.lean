/- Laid together: FpM, PrA. -/
import Derived.Test.YtlinknkcbbcfmaaGreatDoorJFnProcs36
import Derived.Test.YtlinknkcbbcfmaaGreatDoorJFnProcs15
import Derived.Test.YtlinknkcbbcfmaaGreatDoorJFnProcs23
/- What is under a step, as plain facts: it stands in one piece; nothing is under leaves; all is under the first. -/
namespace Go.Proofs.YtlinknkcbbcfmaaGreatDoor
set_option linter.unusedVariables false
namespace Pf
open St (StepD)
open Tr (Chain cutTo onPath top nf ElemD cut_no cut_le top_cut)
theorem take_range (p : Nat → Bool) : ∀ (n s : Nat), ∃ m, m ≤ n ∧ (List.range' s n).takeWhile p = List.range' s m
  | 0, s => ⟨0, Nat.le_refl _, rfl⟩
  | n + 1, s => by
    rw [List.range'_succ, List.takeWhile_cons]
    by_cases h : p s = true
    · rw [if_pos h]
      obtain ⟨m, hm, e⟩ := take_range p n (s + 1)
      exact ⟨m + 1, by omega, by rw [e, List.range'_succ]⟩
    · rw [if_neg h]
      exact ⟨0, Nat.zero_le _, rfl⟩
theorem under_range' (ss : List StepD) (k : Nat) : ∃ m, underN ss k = List.range' k (m + 1) := by
  obtain ⟨m, _, e⟩ := take_range (fun j => decide (dOf ss k < dOf ss j)) (ss.length - (k + 1)) (k + 1)
  refine ⟨m, ?_⟩
  unfold underN uFrom
  rw [e, List.range'_succ]
theorem under_get {ss : List StepD} {k q : Nat} (h : q < (intsOf (underN ss k)).length) : (intsOf (underN ss k))[q] = (k : Int) + (q : Int) := by
  obtain ⟨m, e⟩ := under_range' ss k
  have : ∀ (l : List Nat) (hq : q < (intsOf l).length), l = List.range' k (m + 1) → (intsOf l)[q] = (k : Int) + (q : Int) := by
    intro l hq hl
    subst hl
    simp [intsOf]
  exact this _ h e
theorem deep_one (ss : List StepD) (i : Nat) : 1 ≤ dOf ss i := by
  unfold dOf
  rw [path]
  simp
theorem leaf_kids {ss : List StepD} {k : Nat} (hp : pFault ss = 0) (hk : k < ss.length) (hl : leafK (PJ ss k).kind = true) : kidsL ss k = [] := by
  have h := first_all (of_p hp).2.2.1 hk
  have hm : manyOk (PJ ss k).kind (kidsL ss k).length = true := by
    cases hx : manyOk (PJ ss k).kind (kidsL ss k).length
    · rw [link_many hx] at h; cases h
    · rfl
  have h3 : (PJ ss k).kind = 2 ∨ (PJ ss k).kind = 5 ∨ (PJ ss k).kind = 6 := by
    unfold leafK at hl
    simp at hl
    omega
  unfold manyOk at hm
  rw [if_neg (by omega), if_neg (by omega), if_neg (by omega)] at hm
  exact List.eq_nil_of_length_eq_zero (by simpa using hm)
theorem not_kid {ss : List StepD} {k i : Nat} (h : kidsL ss k = []) (hi : i < ss.length) : (PJ ss i).parent ≠ (k : Int) := by
  intro e
  have : i ∈ kidsL ss k := by
    unfold kidsL kidsN
    rw [List.mem_filter]
    exact ⟨List.mem_range.2 hi, by simp [e]⟩
  rw [h] at this
  cases this
theorem leaf_under {ss : List StepD} {k : Nat} (hp : pFault ss = 0) (hk : k < ss.length) (hl : leafK (PJ ss k).kind = true) : underN ss k = [k] := by
  unfold underN
  by_cases h : k + 1 < ss.length
  · have hn := not_kid (leaf_kids hp hk hl) h
    rw [u_stop h]
    intro hd
    have e1 : dOf ss (k + 1) = (cutTo (PJ ss (k + 1)).parent (k :: cutTo (PJ ss k).parent (path ss k))).length + 1 := rfl
    have e2 : dOf ss k = (cutTo (PJ ss k).parent (path ss k)).length + 1 := rfl
    rw [e1, e2, cut_no (fun e => hn e.symm)] at hd
    have := cut_le (p := (PJ ss (k + 1)).parent) (S := cutTo (PJ ss k).parent (path ss k))
    omega
  · rw [u_end (by omega)]
theorem first_deep {ss : List StepD} {i : Nat} (hp : pFault ss = 0) (hi : i < ss.length) (h0 : 0 < i) : dOf ss 0 < dOf ss i := by
  have h := of_one (first_all (of_p hp).2.1 hi)
  have hon : onPath (PJ ss i).parent (path ss i) = true := by
    cases hx : onPath (PJ ss i).parent (path ss i)
    · exact absurd ⟨h0, hx⟩ h.2.2.1
    · rfl
  unfold dOf
  rw [path, path, path]
  have : cutTo (PJ ss i).parent (path ss i) ≠ [] := by
    intro e
    have h2 := top_cut hon
    rw [e] at h2
    have := Tr.on_nonneg hon
    rw [← h2] at this
    exact absurd this (by decide)
  have h5 : 0 < (cutTo (PJ ss i).parent (path ss i)).length := by
    cases hx : cutTo (PJ ss i).parent (path ss i) with
    | nil => exact absurd hx this
    | cons a r => simp
  have h6 : (cutTo (PJ ss 0).parent ([] : List Nat)).length = 0 := rfl
  rw [List.length_cons, List.length_cons, h6]
  omega
theorem all_from {ss : List StepD} (hp : pFault ss = 0) : ∀ (n i : Nat), i + n = ss.length → 0 < i → (uFrom ss 0 i).length = n
  | 0, i, h, h0 => by rw [u_end (by omega)]; rfl
  | n + 1, i, h, h0 => by
    rw [u_step (by omega) (first_deep hp (by omega) h0), List.length_cons, all_from hp n (i + 1) (by omega) (by omega)]
theorem all_under {ss : List StepD} (hp : pFault ss = 0) : (underN ss 0).length = ss.length := by
  have h1 := (of_p hp).1
  unfold underN
  rw [List.length_cons, all_from hp (ss.length - 1) (0 + 1) (by omega) (by omega)]
  omega
theorem deep_pos {ss : List StepD} : ∀ {n : Nat}, 0 < n → 1 ≤ deepN ss n
  | n + 1, _ => by
    have := deep_one ss n
    unfold dOf at this
    rw [deepN]
    omega
theorem leaf_mem {ss : List StepD} {q : Nat} (h : q < (intsOf (leavesN ss ss.length)).length) : ∃ k : Nat, k < ss.length ∧ leafK (PJ ss k).kind = true ∧ (intsOf (leavesN ss ss.length))[q] = (k : Int) := by
  rw [intsOf_len] at h
  have hm := List.getElem_mem h
  have h2 : (leavesN ss ss.length)[q] ∈ (List.range ss.length).filter fun i => leafK (PJ ss i).kind := hm
  rw [List.mem_filter] at h2
  exact ⟨(leavesN ss ss.length)[q], List.mem_range.1 h2.1, h2.2, by simp [intsOf]⟩
end Pf
end Go.Proofs.YtlinknkcbbcfmaaGreatDoor
/- The text of a process, as a plain function. -/
namespace Go.Proofs.YtlinknkcbbcfmaaGreatDoor
open Go.RowKit
set_option linter.unusedVariables false
namespace Pf
open Ex (hid inR eFault str str_app str_size textOf text_ok top_of_e of_e topF top_nodes txt_len near_of_ok dec_len)
open Nd (NodeD)
open St (StepD)
open Tr (nf)
open Go.Lib (decDigits)
theorem text_len {ns : List NodeD} (h : eFault ns = 0) : (textOf ns).length ≤ 64 := by
  obtain ⟨t, ht⟩ := top_of_e h
  rw [text_ok h ht]
  have hn := top_nodes h ht
  have h1 := txt_len t (near_of_ok hn.2.1)
  have h2 := (of_e h).2.1
  have h3 := hn.2.2
  omega
def wordL (k : Int) : List UInt8 := if k = 1 then [115, 101, 113] else if k = 2 then [116, 97, 115, 107] else if k = 3 then [120, 111, 114] else if k = 4 then [97, 110, 100] else if k = 5 then [119, 97, 105, 116] else if k = 6 then [116, 105, 109, 101, 114] else if k = 7 then [115, 101, 116] else if k = 8 then [103, 117, 97, 114, 100] else []
def condL (s : StepD) : List UInt8 := if s.cond.length = 0 then [] else [105, 102, 32] ++ textOf s.cond ++ [32]
def tailL (s : StepD) : List UInt8 := if s.kind = 2 then [32] ++ s.name.data.toList else if s.kind = 7 then [32, 118] ++ decDigits s.arg.toNat ++ [32] ++ textOf s.expr else if s.kind = 5 ∨ s.kind = 6 ∨ s.kind = 8 then [32] ++ decDigits s.arg.toNat else []
def lineL (s : StepD) : List UInt8 := condL s ++ wordL s.kind ++ tailL s
def padL : Nat → List UInt8
  | 0 => []
  | n + 1 => padL n ++ [32, 32]
theorem pad_len : ∀ n, (padL n).length = 2 * n
  | 0 => rfl
  | n + 1 => by rw [padL, List.length_append, pad_len n]; simp; omega
def procL (ss : List StepD) : Nat → List UInt8
  | 0 => []
  | i + 1 => procL ss i ++ padL ((path ss (i + 1)).length - 1) ++ lineL (PJ ss i) ++ [10]
def procT (ss : List StepD) : ByteArray := if pFault ss = 0 then str (procL ss ss.length) else str []
theorem procT_ok {ss : List StepD} (h : pFault ss = 0) : procT ss = str (procL ss ss.length) := by unfold procT; rw [if_pos h]
theorem procT_bad {ss : List StepD} (h : pFault ss ≠ 0) : procT ss = str [] := by unfold procT; rw [if_neg h]
/-- What a step's text wants of it. -/
structure Fine (s : StepD) : Prop where
  kind : inR s.kind 1 8 = true
  name : s.kind = 2 → s.name.size ≤ 8
  arg : 0 ≤ s.arg ∧ s.arg ≤ 99
  cond : 0 < s.cond.length → eFault s.cond = 0
  expr : s.kind = 7 → eFault s.expr = 0
theorem bsize (b : ByteArray) : b.data.toList.length = b.size := rfl
theorem nf_len {l : List UInt8} (h : nf l = 0) : l.length ≤ 8 := by
  unfold nf at h
  split at h
  · cases h
  split at h
  · cases h
  split at h
  · cases h
  omega
theorem fine {ss : List StepD} {i : Nat} (hi : i < ss.length) (h : pFault ss = 0) : Fine ss[i] := by
  obtain ⟨_, h1, h2, h3⟩ := of_p h
  have e := of_one (first_all h1 hi)
  have e2 := first_all h2 hi
  rw [PJ_eq hi] at e
  obtain ⟨f, _, _, _, p⟩ := e
  unfold formOk at f
  have fk : inR ss[i].kind 1 8 = true := (Bool.and_eq_true _ _ ▸ f).1
  unfold partC at p
  have fb : bare ss[i] = true := (Bool.and_eq_true _ _ ▸ f).2
  refine ⟨fk, fun hk => ?_, ?_, fun hc => ?_, fun hk => ?_⟩
  · by_cases hn : nf ss[i].name.data.toList = 0
    · have := nf_len hn
      rw [bsize] at this
      exact this
    · rw [if_pos ⟨hk, hn⟩] at p; exact absurd p hn
  · by_cases h5 : inR ss[i].kind 5 8 = true
    · have h5' := Ex.inR_iff.1 h5
      have hn : ¬ (ss[i].kind = 2 ∧ nf ss[i].name.data.toList ≠ 0) := by omega
      rw [if_neg hn] at p
      have hk : ss[i].kind = 5 ∨ ss[i].kind = 6 ∨ ss[i].kind = 7 ∨ ss[i].kind = 8 := by omega
      by_cases ha : argOk ss[i] = false
      · rw [if_pos ha] at p; cases p
      · unfold argOk at ha
        rcases hk with hk | hk | hk | hk
        · rw [hk] at ha; simp at ha; have := Ex.inR_iff.1 ha; omega
        · rw [hk] at ha; simp at ha; have := Ex.inR_iff.1 ha; omega
        · rw [hk] at ha; simp at ha; have := Ex.inR_iff.1 ha; omega
        · rw [hk] at ha; simp at ha; have := Ex.inR_iff.1 ha; omega
    · unfold bare at fb
      simp [h5] at fb
      omega
  · unfold linkC at e2
    rw [PJ_eq hi] at e2
    split at e2
    · cases e2
    split at e2
    · cases e2
    first | exact e2 | (rw [if_pos hc] at e2; exact e2)
  · have hn : ¬ (ss[i].kind = 2 ∧ nf ss[i].name.data.toList ≠ 0) := by omega
    rw [if_neg hn] at p
    by_cases ha : argOk ss[i] = false
    · rw [if_pos ha] at p; cases p
    · rw [if_neg ha, if_pos hk] at p; exact p
theorem cond_len {s : StepD} (h : Fine s) : (condL s).length ≤ 68 := by
  unfold condL
  split
  · simp
  · have := text_len (h.cond (by omega))
    simp; omega
theorem word_len (k : Int) : (wordL k).length ≤ 5 := by
  unfold wordL
  repeat' split
  all_goals decide
theorem dig_len {n : Int} (h : 0 ≤ n ∧ n ≤ 99) : (decDigits n.toNat).length ≤ 2 := dec_len 1 n.toNat (by omega)
theorem tail_len {s : StepD} (h : Fine s) : (tailL s).length ≤ 80 := by
  unfold tailL
  split
  · rename_i hk
    have := h.name hk
    rw [List.length_append, bsize]
    simp; omega
  split
  · rename_i hk
    have h1 := text_len (h.expr hk)
    have h2 := dig_len h.arg
    simp; omega
  split
  · rename_i hk
    have h2 := dig_len h.arg
    simp; omega
  · simp
theorem line_len {s : StepD} (h : Fine s) : (lineL s).length ≤ 200 := by
  have h1 := cond_len h
  have h2 := word_len s.kind
  have h3 := tail_len h
  unfold lineL
  simp; omega
theorem proc_len {ss : List StepD} (h : pFault ss = 0) : ∀ i, i ≤ ss.length → (procL ss i).length ≤ 300 * i
  | 0, _ => by simp [procL]
  | i + 1, hi => by
    have h0 := proc_len h i (by omega)
    have h1 := line_len (fine (i := i) (by omega) h)
    have h2 := (walked (ss := ss) (i := i + 1) hi (first_to (of_p h).2.1 hi)).deep
    rw [procL, List.length_append, List.length_append, List.length_append, pad_len, PJ_eq (by omega)]
    simp; omega
end Pf
end Go.Proofs.YtlinknkcbbcfmaaGreatDoor
