/- Plain facts of the law FnEvals: where a code is 0 or ErrValue nothing else is wrong; the variables that are changed. -/
import Derived.Test.YtpegbiggmjepgaaEvP
import Derived.Test.YtpegbiggmjepgaaLwH
import Derived.Test.YtpegbiggmjepgaaVaB
import Derived.Test.YtpegbiggmjepgaaDrW
namespace Go.Proofs.Ytpegbiggmjepgaa
open Go.RowKit
set_option linter.unusedVariables false
namespace Ex
open Nd (NodeD)
open DrE (hasN)
theorem n_le (n : NodeD) (i : Int) : nCode n i ≤ 3 := by
  unfold nCode
  repeat' split
  all_goals omega
theorem code_le (ns : List NodeD) : ∀ n, eCodeTo ns n ≤ 3
  | 0 => by rw [eCodeTo]; omega
  | n + 1 => by
    rw [eCodeTo]
    split
    · exact code_le ns n
    · exact n_le _ _
theorem e_le (ns : List NodeD) : eFault ns ≤ 3 := by
  unfold eFault
  have := code_le ns ns.length
  repeat' split
  all_goals omega
theorem t_le (ns : List NodeD) : typeCode ns ≤ 7 := by
  unfold typeCode
  have := e_le ns
  repeat' split
  all_goals omega
theorem v_le (xs : List Int) : vFault xs ≤ 3 := by
  unfold vFault
  repeat' split
  all_goals omega
theorem ev_fine {ns : List NodeD} {xs : List Int} (h : evalCode ns xs = 0 ∨ evalCode ns xs = 8) : typeCode ns = 0 ∧ vFault xs = 0 := by
  have h1 := t_le ns
  have h2 := v_le xs
  by_cases ht : typeCode ns = 0
  · refine ⟨ht, ?_⟩
    by_cases hv : vFault xs = 0
    · exact hv
    · rw [(ev_vars ht hv).1] at h
      omega
  · rw [(ev_type ht).1] at h
    omega
theorem mem_vars {ns : List NodeD} : ∀ (n : Nat) (v : Nat), v < n → (hasN (varsTo ns n) (v : Int) = hasVar ns v)
  | 0, v, h => by omega
  | n + 1, v, h => by
    by_cases e : v = n
    · subst e
      cases c : hasVar ns v
      · rw [vars_no c]
        have : ∀ m, m ≤ v → hasN (varsTo ns m) (v : Int) = false := by
          intro m
          induction m with
          | zero => intro _; rfl
          | succ m ih =>
            intro hm
            have ih' := ih (by omega)
            rw [varsTo]
            split
            · unfold hasN at ih' ⊢
              rw [List.any_append, ih']
              simp
              omega
            · exact ih'
        exact this v (Nat.le_refl _)
      · rw [vars_yes c]
        unfold hasN
        rw [List.any_append]
        simp
    · have ih := mem_vars (ns := ns) n v (by omega)
      cases c : hasVar ns n
      · rw [vars_no c]; exact ih
      · rw [vars_yes c]
        unfold hasN at ih ⊢
        rw [List.any_append, ih]
        have : ((n : Int) == (v : Int)) = false := by simp; omega
        simp [this]
/-- The changed variables, ahead of place k. -/
def oth (ns : List NodeD) (xs : List Int) (k : Nat) : List Int := (List.range 4).map fun j => if j < k ∧ hasVar ns (j : Int) = false then 17 else xs.getD j 0
theorem oth_len (ns : List NodeD) (xs : List Int) (k : Nat) : (oth ns xs k).length = 4 := by simp [oth]
theorem oth_get (ns : List NodeD) (xs : List Int) (k j : Nat) (h : j < (oth ns xs k).length) : (oth ns xs k)[j] = if j < k ∧ hasVar ns (j : Int) = false then 17 else xs.getD j 0 := by
  simp [oth]
theorem oth_zero {ns : List NodeD} {xs : List Int} (h : xs.length = 4) : oth ns xs 0 = xs := by
  apply List.ext_getElem
  · rw [oth_len, h]
  · intro i h1 h2
    rw [oth_get, if_neg (by omega), List.getD_eq_getElem?_getD, List.getElem?_eq_getElem h2, Option.getD_some]
theorem oth_keep {ns : List NodeD} {xs : List Int} {k : Nat} (h : hasVar ns (k : Int) = true) : oth ns xs (k + 1) = oth ns xs k := by
  apply List.ext_getElem
  · rw [oth_len, oth_len]
  · intro i h1 h2
    rw [oth_get, oth_get]
    by_cases e : i = k
    · subst e
      rw [if_neg (by simp [h]), if_neg (by omega)]
    · by_cases c : i < k ∧ hasVar ns (i : Int) = false
      · rw [if_pos c, if_pos ⟨by omega, c.2⟩]
      · rw [if_neg c, if_neg (fun c2 => c ⟨by omega, c2.2⟩)]
theorem oth_set {ns : List NodeD} {xs : List Int} {k : Nat} (hk : k < 4) (h : hasVar ns (k : Int) = false) (j : Nat) (hj : j < 4) : (oth ns xs (k + 1))[j]'(by rw [oth_len]; exact hj) = if j = k then 17 else (oth ns xs k)[j]'(by rw [oth_len]; exact hj) := by
  rw [oth_get, oth_get]
  by_cases e : j = k
  · subst e
    rw [if_pos ⟨by omega, h⟩, if_pos rfl]
  · rw [if_neg e]
    by_cases c : j < k ∧ hasVar ns (j : Int) = false
    · rw [if_pos c, if_pos ⟨by omega, c.2⟩]
    · rw [if_neg c, if_neg (fun c2 => c ⟨by omega, c2.2⟩)]
theorem vals_oth {ns : List NodeD} {xs : List Int} {k : Nat} (hk : k < 4) (h : hasVar ns (k : Int) = false) : (Ints.vals (oth ns xs k)).set k (.int .i64 17) = Ints.vals (oth ns xs (k + 1)) := by
  unfold Ints.vals
  apply List.ext_getElem
  · simp [oth_len]
  · intro i h1 h2
    have hi : i < 4 := by simpa [oth_len] using h2
    rw [List.getElem_set, List.getElem_map, List.getElem_map, oth_set hk h i hi]
    by_cases e : k = i
    · rw [if_pos e, if_pos e.symm]
    · rw [if_neg e, if_neg (fun e2 => e e2.symm)]
theorem oth_fault {ns : List NodeD} {xs : List Int} (h : vFault xs = 0) : vFault (oth ns xs 4) = 0 := by
  obtain ⟨hl, hi⟩ := of_v h
  refine v_ok (oth_len _ _ _) (fun i h1 => ?_)
  rw [oth_get]
  split
  · decide
  · have h2 : i < xs.length := by rw [oth_len] at h1; omega
    rw [List.getD_eq_getElem?_getD, List.getElem?_eq_getElem h2, Option.getD_some]
    exact hi i h2
theorem oth_agree (ns : List NodeD) (xs : List Int) : Agree ns xs (oth ns xs 4) := by
  intro v hv hh
  have hl := oth_len ns xs 4
  rw [List.getD_eq_getElem?_getD (l := oth ns xs 4), List.getElem?_eq_getElem (by omega), Option.getD_some, oth_get, if_neg (by simp [hh])]
theorem nu_owns {w : World} {base : Nat} {v : Value} {xs : List Int} (h : w.ownsRow base 2 1 v xs.length (Ints.vals xs)) : Nu.At w base v xs := by
  obtain ⟨hl, ⟨rfl, h0⟩ | ⟨g, cap, cur, rfl, hB, hh, hle, hm, hs, hcur⟩⟩ := h
  · have : xs = [] := List.eq_nil_of_length_eq_zero h0
    subst this
    exact ⟨none, 0, rfl, Nat.le_refl _, Nat.zero_le _, .inl rfl⟩
  · refine ⟨_, cap, rfl, hle, hm, .inr ⟨g, 0, rfl, hB, (Array.getElem?_eq_some_iff.1 hh).1, fun i hi => ?_⟩⟩
    rw [cell_of_row w g (0 + i) cur _ (0, 0) hh]
    have e1 : (Ints.vals xs)[i]? = some (.int .i64 xs[i]) := by simp [Ints.vals, List.getElem?_eq_getElem hi]
    rw [← hcur, List.getElem?_take] at e1
    split at e1
    · rw [Nat.zero_add]; simpa using e1
    · cases e1
theorem runEqI (c v : Int) (w : World) : (binOp .eql 29 (.agg #[.int .i64 c, .int .i64 v]) (.agg #[.int .i64 c, .int .i64 v])).run Try.prog w = .ok (.bool true) w := by
  have h1 : (c == c) = true := by simp
  have h2 : (v == v) = true := by simp
  go_simp
theorem guardI : Try.prog.eqGuardType Try.prog.depth 29 = false := by kernel_rfl
end Ex
end Go.Proofs.Ytpegbiggmjepgaa
