/- Lines one behind the other, and lines that are torn: plain facts. No condition. -/
import Derived.Test.YtiliahibnhfhoaaJnM
namespace Go.Proofs.Ytiliahibnhfhoaa
set_option linter.unusedVariables false
namespace Jn
theorem lenN_app {d t : List UInt8} (h : 0 < d.length) : lenN (d ++ t) = lenN d := by
  cases d with
  | nil => simp at h
  | cons x xs => rfl
theorem oneB_pos {d : List UInt8} (h : oneB d = true) : 3 < d.length := by
  have h1 := of_oneB h
  have h2 := fault_len h1.2.1
  rw [oneL_len h1.1] at h2
  omega
/-- What stands at the head is found whatever stands behind it. -/
theorem oneB_app {d t : List UInt8} (h : oneB d = true) : oneB (d ++ t) = true ∧ oneL (d ++ t) = oneL d ∧ lenN (d ++ t) = lenN d := by
  have hp := oneB_pos h
  obtain ⟨h1, h2, h3⟩ := of_oneB h
  have e0 : lenN (d ++ t) = lenN d := lenN_app (by omega)
  have e1 : oneL (d ++ t) = oneL d := by
    unfold oneL
    rw [e0, List.drop_append_of_le_length (by omega), List.take_append_of_le_length (by rw [List.length_drop]; omega)]
  refine ⟨?_, e1, e0⟩
  unfold oneB
  rw [e1, e0, decide_eq_true (by rw [List.length_append]; omega : lenN d + 3 ≤ (d ++ t).length), decide_eq_true h2, List.take_append_of_le_length h1, decide_eq_true h3]
  rfl
theorem one_app {d t : List UInt8} (h : 0 < oneN d) : oneN (d ++ t) = oneN d ∧ oneS (d ++ t) = oneS d := by
  have hb : oneB d = true := by
    cases hb : oneB d with
    | true => rfl
    | false => have := (oneN_zero hb).1; omega
  obtain ⟨h1, h2, h3⟩ := oneB_app (t := t) hb
  rw [(oneN_pos hb).1, (oneN_pos hb).2, (oneN_pos h1).1, (oneN_pos h1).2, h2, h3]
  exact ⟨rfl, rfl⟩
theorem read_nil : readL [] = ([], 0) := rfl
theorem read_app_aux : ∀ (f : Nat) (s t : List UInt8), s.length ≤ f → (readL s).2 = s.length → readL (s ++ t) = ((readL s).1 ++ (readL t).1, s.length + (readL t).2)
  | 0, s, t, hf, hv => by
    obtain rfl : s = [] := List.eq_nil_of_length_eq_zero (by omega)
    simp [read_nil]
  | f + 1, s, t, hf, hv => by
    by_cases h0 : 0 < oneN s
    · have hle := oneN_le s
      obtain ⟨e1, e2⟩ := one_app (t := t) h0
      have hs := read_step h0
      have hv2 : (readL (s.drop (oneN s))).2 = (s.drop (oneN s)).length := by
        rw [hs] at hv
        rw [List.length_drop]
        have : oneN s + (readL (s.drop (oneN s))).2 = s.length := hv
        omega
      have ih := read_app_aux f (s.drop (oneN s)) t (by rw [List.length_drop]; omega) hv2
      rw [read_step (by rw [e1]; exact h0), e1, e2, List.drop_append_of_le_length hle, ih, hs]
      rw [List.length_drop]
      simp only [List.cons_append, Prod.mk.injEq, true_and]
      omega
    · have h1 : oneN s = 0 := by omega
      rw [read_stop h1] at hv
      obtain rfl : s = [] := List.eq_nil_of_length_eq_zero hv.symm
      simp [read_nil]
theorem read_app {s t : List UInt8} (hv : (readL s).2 = s.length) : readL (s ++ t) = ((readL s).1 ++ (readL t).1, s.length + (readL t).2) := read_app_aux s.length s t (Nat.le_refl _) hv
/-- A beginning of the bytes has a beginning of the lines. -/
theorem read_take_aux : ∀ (f : Nat) (t : List UInt8) (k : Nat), t.length ≤ f → (readL (t.take k)).1 <+: (readL t).1
  | 0, t, k, hf => by
    obtain rfl : t = [] := List.eq_nil_of_length_eq_zero (by omega)
    rw [List.take_nil]
    exact List.prefix_rfl
  | f + 1, t, k, hf => by
    by_cases h0 : 0 < oneN (t.take k)
    · have hle := oneN_le (t.take k)
      have ht : t = t.take k ++ t.drop k := (List.take_append_drop k t).symm
      obtain ⟨e1, e2⟩ := one_app (t := t.drop k) h0
      rw [← ht] at e1 e2
      have r1 := read_step h0
      have r2 := read_step (d := t) (by rw [e1]; exact h0)
      rw [r1, r2, e1, e2]
      have hk : oneN (t.take k) ≤ k := Nat.le_trans hle (by rw [List.length_take]; omega)
      have ed : (t.take k).drop (oneN (t.take k)) = (t.drop (oneN (t.take k))).take (k - oneN (t.take k)) := by rw [List.drop_take]
      have ih := read_take_aux f (t.drop (oneN (t.take k))) (k - oneN (t.take k)) (by rw [List.length_drop]; omega)
      rw [ed]
      exact List.prefix_cons_inj _ |>.2 ih
    · rw [read_stop (by omega)]
      exact List.nil_prefix
theorem read_take (t : List UInt8) (k : Nat) : (readL (t.take k)).1 <+: (readL t).1 := read_take_aux t.length t k (Nat.le_refl _)
/-- The bytes of the lines alone. -/
theorem read_cut_aux : ∀ (f : Nat) (x : List UInt8), x.length ≤ f → readL (x.take (readL x).2) = readL x
  | 0, x, hf => by
    obtain rfl : x = [] := List.eq_nil_of_length_eq_zero (by omega)
    rfl
  | f + 1, x, hf => by
    by_cases h0 : 0 < oneN x
    · have hle := oneN_le x
      have hs := read_step h0
      have e2 : (readL x).2 = oneN x + (readL (x.drop (oneN x))).2 := by rw [hs]
      have hb : oneB x = true := by
        cases hb : oneB x with
        | true => rfl
        | false => have := (oneN_zero hb).1; omega
      have ex : x.take (oneN x + (readL (x.drop (oneN x))).2) = x.take (oneN x) ++ (x.drop (oneN x)).take (readL (x.drop (oneN x))).2 := by
        rw [List.take_add]
      have hN : oneN x = lenN x + 3 := (oneN_pos hb).1
      obtain ⟨h1, h2, h3⟩ := of_oneB hb
      have hp := oneB_pos hb
      have f0 : lenN (x.take (oneN x)) = lenN x := by
        rw [hN]
        cases x with
        | nil => simp at hp
        | cons y ys => rfl
      have f1 : oneL (x.take (oneN x)) = oneL x := by
        unfold oneL
        rw [f0, hN, List.drop_take, List.take_take]
        congr 1
        omega
      have fb : oneB (x.take (oneN x)) = true := by
        unfold oneB
        have hl : (x.take (oneN x)).length = oneN x := by rw [List.length_take]; omega
        rw [f0, f1, hl, decide_eq_true (by omega : lenN x + 3 ≤ oneN x), decide_eq_true h2, hN, List.take_take, Nat.min_self, decide_eq_true h3]
        rfl
      obtain ⟨g1, g2⟩ := one_app (d := x.take (oneN x)) (t := (x.drop (oneN x)).take (readL (x.drop (oneN x))).2) (by rw [(oneN_pos fb).1]; omega)
      have k1 : oneN (x.take (oneN x)) = oneN x := by rw [(oneN_pos fb).1, f0, hN]
      have k2 : oneS (x.take (oneN x)) = oneS x := by rw [(oneN_pos fb).2, f1, (oneN_pos hb).2]
      rw [k1] at g1
      rw [k2] at g2
      have ih := read_cut_aux f (x.drop (oneN x)) (by rw [List.length_drop]; omega)
      rw [e2, ex, read_step (by rw [g1]; exact h0), g1, g2, List.drop_append_of_le_length (by rw [List.length_take]; omega), List.drop_eq_nil_of_le (by rw [List.length_take]; omega), List.nil_append, ih, ← hs]
    · have h1 : oneN x = 0 := by omega
      rw [read_stop h1]
      rfl
theorem read_cut (x : List UInt8) : readL (x.take (readL x).2) = readL x := read_cut_aux x.length x (Nat.le_refl _)
end Jn
end Go.Proofs.Ytiliahibnhfhoaa
