/- Plain facts for the law FnExprs: a text that is read comes back as its text, and a list of nodes comes back from its text. -/
import Derived.Test.YtdidbnhfknpheaaDoorDrH
namespace Go.Proofs.YtdidbnhfknpheaaDoor
open Go.RowKit
set_option linter.unusedVariables false
namespace FxP
open Ex
open Nd (NodeD)
/-- What is read comes back. -/
theorem back_text {l : List UInt8} (h : pCode l = 0) : eFault (pNodes l) = 0 ∧ textOf (pNodes l) = l := by
  by_cases h2 : 200 < l.length
  · rw [(p_many h2).1] at h; cases h
  · cases hp : parseF l with
    | none => rw [(p_none h2 hp).1] at h; cases h
    | some t =>
      rw [(p_some h2 hp).2]
      unfold parseF at hp
      split at hp
      · rename_i t' hg
        by_cases hf : t'.fine = true
        · rw [if_pos hf] at hp
          cases hp
          obtain ⟨e1, e2⟩ := gp_txt _ _ _ _ hg
          have he := (e_nodes e2).2 (fine_iff.1 hf)
          exact ⟨he, by rw [text_ok he (top_self e2)]; rw [List.append_nil] at e1; exact e1.symm⟩
        · rw [if_neg hf] at hp; cases hp
      · cases hp
/-- A list without a fault comes back from its text. -/
theorem back_nodes {ns : List NodeD} (h : eFault ns = 0) : pCode (textOf ns) = 0 ∧ pNodes (textOf ns) = ns := by
  obtain ⟨t, ht⟩ := top_of_e h
  obtain ⟨e1, e2, e3⟩ := top_nodes h ht
  have hn : ns.length = t.size := e3.symm
  have h16 := (of_e h).2.1
  have htx : textOf ns = t.txt := text_ok h ht
  rw [htx]
  have hnear := near_of_ok e2
  have hl := txt_len t hnear
  have hg := txt_gp t [] (t.txt.length + 1) hnear (fun b s e => by cases e) (by omega)
  rw [List.append_nil] at hg
  have := p_some (l := t.txt) (by omega) (parse_some hg ⟨e2, by omega⟩)
  exact ⟨this.1, this.2.trans e1.symm⟩
end FxP
end Go.Proofs.YtdidbnhfknpheaaDoor
