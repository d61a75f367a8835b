/- What an expression comes to hangs on the variables that it has alone, and is small. -/
import Derived.Test.YtpegbiggmjepgaaExH
import Derived.Test.YtpegbiggmjepgaaVaA
import Derived.Test.YtpegbiggmjepgaaTmB
namespace Go.Proofs.Ytpegbiggmjepgaa
open Go.RowKit
set_option linter.unusedVariables false
namespace Ex
open Nd (NodeD)
theorem has_at {ns : List NodeD} {i : Nat} (hi : i < ns.length) (hk : (NJ ns i).kind = 2) (h0 : 0 ≤ (NJ ns i).value) : hasVar ns ((NJ ns i).value.toNat : Nat) = true := by
  unfold hasVar
  refine any_at hi ?_
  rw [NJ_eq hi] at hk h0 ⊢
  unfold isVar
  rw [hk, Int.toNat_of_nonneg h0]
  simp
def Agree (ns : List NodeD) (vars other : List Int) : Prop := ∀ v : Nat, v < 4 → hasVar ns v = true → vars.getD v 0 = other.getD v 0
theorem val_agree {ns : List NodeD} {vars other vs : List Int} {i : Nat} (hok : ∀ k, k < ns.length → nCode (NJ ns k) k = 0) (h : Agree ns vars other) (hi : i < ns.length) : valAt ns vars vs i = valAt ns other vs i := by
  unfold valAt
  by_cases k2 : (NJ ns i).kind = 2
  · rw [if_pos k2, if_pos k2]
    have h5 := v_var (hok i hi) k2
    exact h _ (by omega) (has_at hi k2 h5.1)
  · rw [if_neg k2, if_neg k2]
theorem evs_agree {ns : List NodeD} {vars other : List Int} (hok : ∀ k, k < ns.length → nCode (NJ ns k) k = 0) (h : Agree ns vars other) : ∀ i, i ≤ ns.length → evs ns vars i = evs ns other i
  | 0, _ => rfl
  | i + 1, hi => by rw [evs, evs, evs_agree hok h i (by omega), val_agree hok h (by omega)]
theorem evBad_agree {ns : List NodeD} {vars other : List Int} (hok : ∀ k, k < ns.length → nCode (NJ ns k) k = 0) (h : Agree ns vars other) {j : Nat} (hj : j ≤ ns.length) : evBad ns vars j = evBad ns other j := by
  unfold evBad
  rw [evs_agree hok h j hj]
theorem evOk_agree {ns : List NodeD} {vars other : List Int} (hok : ∀ k, k < ns.length → nCode (NJ ns k) k = 0) (h : Agree ns vars other) : evOk ns vars = evOk ns other := by
  cases e : evOk ns other
  · unfold evOk at e
    rw [List.all_eq_false] at e
    obtain ⟨j, hj, hb⟩ := e
    have hj' : j < ns.length := by simpa using hj
    exact evOk_bad hj' ((evBad_agree hok h (by omega)).trans (by simpa using hb))
  · unfold evOk at e
    rw [List.all_eq_true] at e
    exact evOk_all fun j hj => (evBad_agree hok h (by omega)).trans (by simpa using e j (by simpa using hj))
/-- Two lists of variables that agree where the expression has a variable give the same. -/
theorem eval_agree {ns : List NodeD} {vars other : List Int} (hv : vFault vars = 0) (hv2 : vFault other = 0) (h : Agree ns vars other) : evalCode ns other = evalCode ns vars ∧ evalVal ns other = evalVal ns vars := by
  by_cases ht : typeCode ns = 0
  · have hok := (of_e (of_type ht)).2.2
    have e1 := evOk_agree hok h
    have e2 := evs_agree hok h ns.length (Nat.le_refl _)
    cases e : evOk ns vars
    · have a := ev_bad ht hv e
      have b := ev_bad ht hv2 (e1 ▸ e)
      exact ⟨b.1.trans a.1.symm, b.2.trans a.2.symm⟩
    · have a := ev_ok ht hv e
      have b := ev_ok ht hv2 (e1 ▸ e)
      exact ⟨b.1.trans a.1.symm, by rw [b.2, a.2, e2]⟩
  · have a := ev_type (vars := vars) ht
    have b := ev_type (vars := other) ht
    exact ⟨b.1.trans a.1.symm, b.2.trans a.2.symm⟩
/-- What it comes to is small. -/
theorem eval_small (ns : List NodeD) (vars : List Int) : -1000000 ≤ evalVal ns vars ∧ evalVal ns vars ≤ 1000000 := by
  by_cases ht : typeCode ns = 0
  · by_cases hv : vFault vars = 0
    · cases e : evOk ns vars
      · rw [(ev_bad ht hv e).2]; omega
      · rw [(ev_ok ht hv e).2]
        obtain ⟨h0, h16, hok⟩ := of_e (of_type ht)
        refine getD_in (evs_in hok hv (Nat.le_refl _) fun j hj => ?_) (by rw [evs_len]; omega)
        unfold evOk at e
        rw [List.all_eq_true] at e
        simpa using e j (by simpa using hj)
    · rw [(ev_vars ht hv).2]; omega
  · rw [(ev_type ht).2]; omega
/-- A bool comes to 0 or 1. -/
theorem eval_bool {ns : List NodeD} {vars : List Int} (h : typeVal ns = 2) : evalVal ns vars = 0 ∨ evalVal ns vars = 1 := by
  by_cases ht : typeCode ns = 0
  · by_cases hv : vFault vars = 0
    · cases e : evOk ns vars
      · exact .inl (ev_bad ht hv e).2
      · rw [(ev_ok ht hv e).2]
        have he := of_type ht
        obtain ⟨h0, h16, hok⟩ := of_e he
        obtain ⟨t, htop⟩ := top_of_e he
        have hf := top_fit he htop
        have hfit : t.fit = true := by
          rw [hf.1]
          unfold typeCode at ht
          rw [if_neg (by simp [he])] at ht
          by_cases c : tOk ns = true
          · exact c
          · rw [if_neg c] at ht; cases ht
        have hg := top_good (vars := vars) he htop hfit
        rw [← hg.2]
        have hty : t.ty = 2 := by
          rw [hf.2, ← h]
          unfold typeVal
          rw [if_pos ht]
        exact (good_iff hok ns.length (ns.length - 1) t 0 (by omega) (by omega) htop hfit).2.2 (hg.1.trans e) hty
    · exact .inl (ev_vars ht hv).2
  · exact .inl (ev_type ht).2
end Ex
end Go.Proofs.Ytpegbiggmjepgaa
