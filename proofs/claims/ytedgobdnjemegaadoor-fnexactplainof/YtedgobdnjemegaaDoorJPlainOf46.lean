/- How long what a step of a process without a fault has can be. -/
import Derived.Test.YtedgobdnjemegaaDoorJPlainOf15
namespace Go.Proofs.YtedgobdnjemegaaDoor
set_option linter.unusedVariables false
namespace Gr
open Ex (inR eFault)
open St (StepD)
open Tr (nf)
open Pf (PJ PJ_eq pFault of_p of_one first_all formOk partC linkC)
theorem nf8 {l : List UInt8} (h : nf l = 0) : l.length ≤ 8 := by
  unfold nf at h
  split at h
  · cases h
  split at h
  · cases h
  split at h
  · cases h
  omega
theorem few {ss : List StepD} (h : pFault ss = 0) {i : Nat} (hi : i < ss.length) : ss[i].name.size ≤ 8 ∧ ss[i].cond.length ≤ 16 ∧ ss[i].expr.length ≤ 16 := by
  obtain ⟨_, h1, h2, h3⟩ := of_p h
  have e := of_one (first_all h1 hi)
  have e2 := first_all h2 hi
  rw [PJ_eq hi] at e
  obtain ⟨f, _, _, _, p⟩ := e
  unfold formOk at f
  have fb : Pf.bare ss[i] = true := (Bool.and_eq_true _ _ ▸ f).2
  unfold partC at p
  unfold Pf.bare at fb
  rw [Bool.and_eq_true, Bool.and_eq_true] at fb
  obtain ⟨⟨b1, b2⟩, b3⟩ := fb
  refine ⟨?_, ?_, ?_⟩
  · by_cases hk : ss[i].kind = 2
    · by_cases hn : nf ss[i].name.data.toList = 0
      · exact nf8 hn
      · rw [if_pos ⟨hk, hn⟩] at p; exact absurd p hn
    · have hz : ss[i].name.toList.isEmpty = true := by
        rcases Bool.or_eq_true_iff.1 b1 with q | q
        · exact absurd (by simpa using q) hk
        · exact q
      rw [ByteArray.toList_eq, List.isEmpty_iff] at hz
      have : ss[i].name.data.toList.length = 0 := by rw [hz]; rfl
      have e3 : ss[i].name.data.toList.length = ss[i].name.size := rfl
      omega
  · by_cases hc : 0 < ss[i].cond.length
    · unfold linkC at e2
      rw [PJ_eq hi] at e2
      split at e2
      · cases e2
      split at e2
      · cases e2
      try rw [if_pos hc] at e2
      exact (Ex.of_e e2).2.1
    · omega
  · by_cases hk : ss[i].kind = 7
    · rw [if_neg (by omega)] at p
      split at p
      · cases p
      try rw [if_pos hk] at p
      exact (Ex.of_e p).2.1
    · rcases Bool.or_eq_true_iff.1 b3 with q | q
      · exact absurd (by simpa using q) hk
      · have : ss[i].expr.length = 0 := by simpa using q
        omega
end Gr
end Go.Proofs.YtedgobdnjemegaaDoor
