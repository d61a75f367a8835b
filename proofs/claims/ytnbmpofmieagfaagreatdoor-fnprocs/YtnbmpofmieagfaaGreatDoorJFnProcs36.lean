/- The text of a process, as a plain function. -/
import Derived.Test.YtnbmpofmieagfaaGreatDoorJFnProcs15
import Derived.Test.YtnbmpofmieagfaaGreatDoorJFnProcs23
namespace Go.Proofs.YtnbmpofmieagfaaGreatDoor
open Go.RowKit
set_option linter.unusedVariables false
namespace Pf
open Ex (hid inR eFault str str_app str_size textOf text_ok top_of_e of_e topF top_nodes txt_len near_of_ok dec_len)
open Nd (NodeD)
open St (StepD)
open Tr (nf)
open Go.Lib (decDigits)
theorem text_len {ns : List NodeD} (h : eFault ns = 0) : (textOf ns).length ≤ 64 := by
  obtain ⟨t, ht⟩ := top_of_e h
  rw [text_ok h ht]
  have hn := top_nodes h ht
  have h1 := txt_len t (near_of_ok hn.2.1)
  have h2 := (of_e h).2.1
  have h3 := hn.2.2
  omega
def wordL (k : Int) : List UInt8 := if k = 1 then [115, 101, 113] else if k = 2 then [116, 97, 115, 107] else if k = 3 then [120, 111, 114] else if k = 4 then [97, 110, 100] else if k = 5 then [119, 97, 105, 116] else if k = 6 then [116, 105, 109, 101, 114] else if k = 7 then [115, 101, 116] else if k = 8 then [103, 117, 97, 114, 100] else []
def condL (s : StepD) : List UInt8 := if s.cond.length = 0 then [] else [105, 102, 32] ++ textOf s.cond ++ [32]
def tailL (s : StepD) : List UInt8 := if s.kind = 2 then [32] ++ s.name.data.toList else if s.kind = 7 then [32, 118] ++ decDigits s.arg.toNat ++ [32] ++ textOf s.expr else if s.kind = 5 ∨ s.kind = 6 ∨ s.kind = 8 then [32] ++ decDigits s.arg.toNat else []
def lineL (s : StepD) : List UInt8 := condL s ++ wordL s.kind ++ tailL s
def padL : Nat → List UInt8
  | 0 => []
  | n + 1 => padL n ++ [32, 32]
theorem pad_len : ∀ n, (padL n).length = 2 * n
  | 0 => rfl
  | n + 1 => by rw [padL, List.length_append, pad_len n]; simp; omega
def procL (ss : List StepD) : Nat → List UInt8
  | 0 => []
  | i + 1 => procL ss i ++ padL ((path ss (i + 1)).length - 1) ++ lineL (PJ ss i) ++ [10]
def procT (ss : List StepD) : ByteArray := if pFault ss = 0 then str (procL ss ss.length) else str []
theorem procT_ok {ss : List StepD} (h : pFault ss = 0) : procT ss = str (procL ss ss.length) := by unfold procT; rw [if_pos h]
theorem procT_bad {ss : List StepD} (h : pFault ss ≠ 0) : procT ss = str [] := by unfold procT; rw [if_neg h]
/-- What a step's text wants of it. -/
structure Fine (s : StepD) : Prop where
  kind : inR s.kind 1 8 = true
  name : s.kind = 2 → s.name.size ≤ 8
  arg : 0 ≤ s.arg ∧ s.arg ≤ 99
  cond : 0 < s.cond.length → eFault s.cond = 0
  expr : s.kind = 7 → eFault s.expr = 0
theorem bsize (b : ByteArray) : b.data.toList.length = b.size := rfl
theorem nf_len {l : List UInt8} (h : nf l = 0) : l.length ≤ 8 := by
  unfold nf at h
  split at h
  · cases h
  split at h
  · cases h
  split at h
  · cases h
  omega
theorem fine {ss : List StepD} {i : Nat} (hi : i < ss.length) (h : pFault ss = 0) : Fine ss[i] := by
  obtain ⟨_, h1, h2, h3⟩ := of_p h
  have e := of_one (first_all h1 hi)
  have e2 := first_all h2 hi
  rw [PJ_eq hi] at e
  obtain ⟨f, _, _, _, p⟩ := e
  unfold formOk at f
  have fk : inR ss[i].kind 1 8 = true := (Bool.and_eq_true _ _ ▸ f).1
  unfold partC at p
  have fb : bare ss[i] = true := (Bool.and_eq_true _ _ ▸ f).2
  refine ⟨fk, fun hk => ?_, ?_, fun hc => ?_, fun hk => ?_⟩
  · by_cases hn : nf ss[i].name.data.toList = 0
    · have := nf_len hn
      rw [bsize] at this
      exact this
    · rw [if_pos ⟨hk, hn⟩] at p; exact absurd p hn
  · by_cases h5 : inR ss[i].kind 5 8 = true
    · have h5' := Ex.inR_iff.1 h5
      have hn : ¬ (ss[i].kind = 2 ∧ nf ss[i].name.data.toList ≠ 0) := by omega
      rw [if_neg hn] at p
      have hk : ss[i].kind = 5 ∨ ss[i].kind = 6 ∨ ss[i].kind = 7 ∨ ss[i].kind = 8 := by omega
      by_cases ha : argOk ss[i] = false
      · rw [if_pos ha] at p; cases p
      · unfold argOk at ha
        rcases hk with hk | hk | hk | hk
        · rw [hk] at ha; simp at ha; have := Ex.inR_iff.1 ha; omega
        · rw [hk] at ha; simp at ha; have := Ex.inR_iff.1 ha; omega
        · rw [hk] at ha; simp at ha; have := Ex.inR_iff.1 ha; omega
        · rw [hk] at ha; simp at ha; have := Ex.inR_iff.1 ha; omega
    · unfold bare at fb
      simp [h5] at fb
      omega
  · unfold linkC at e2
    rw [PJ_eq hi] at e2
    split at e2
    · cases e2
    split at e2
    · cases e2
    first | exact e2 | (rw [if_pos hc] at e2; exact e2)
  · have hn : ¬ (ss[i].kind = 2 ∧ nf ss[i].name.data.toList ≠ 0) := by omega
    rw [if_neg hn] at p
    by_cases ha : argOk ss[i] = false
    · rw [if_pos ha] at p; cases p
    · rw [if_neg ha, if_pos hk] at p; exact p
theorem cond_len {s : StepD} (h : Fine s) : (condL s).length ≤ 68 := by
  unfold condL
  split
  · simp
  · have := text_len (h.cond (by omega))
    simp; omega
theorem word_len (k : Int) : (wordL k).length ≤ 5 := by
  unfold wordL
  repeat' split
  all_goals decide
theorem dig_len {n : Int} (h : 0 ≤ n ∧ n ≤ 99) : (decDigits n.toNat).length ≤ 2 := dec_len 1 n.toNat (by omega)
theorem tail_len {s : StepD} (h : Fine s) : (tailL s).length ≤ 80 := by
  unfold tailL
  split
  · rename_i hk
    have := h.name hk
    rw [List.length_append, bsize]
    simp; omega
  split
  · rename_i hk
    have h1 := text_len (h.expr hk)
    have h2 := dig_len h.arg
    simp; omega
  split
  · rename_i hk
    have h2 := dig_len h.arg
    simp; omega
  · simp
theorem line_len {s : StepD} (h : Fine s) : (lineL s).length ≤ 200 := by
  have h1 := cond_len h
  have h2 := word_len s.kind
  have h3 := tail_len h
  unfold lineL
  simp; omega
theorem proc_len {ss : List StepD} (h : pFault ss = 0) : ∀ i, i ≤ ss.length → (procL ss i).length ≤ 300 * i
  | 0, _ => by simp [procL]
  | i + 1, hi => by
    have h0 := proc_len h i (by omega)
    have h1 := line_len (fine (i := i) (by omega) h)
    have h2 := (walked (ss := ss) (i := i + 1) hi (first_to (of_p h).2.1 hi)).deep
    rw [procL, List.length_append, List.length_append, List.length_append, pad_len, PJ_eq (by omega)]
    simp; omega
end Pf
end Go.Proofs.YtnbmpofmieagfaaGreatDoor
