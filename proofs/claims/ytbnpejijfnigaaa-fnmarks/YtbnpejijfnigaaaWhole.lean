/- Plain facts: the texts into which a good text is cut are not empty, no two neighbours are both no marks, and put together they are the text. -/
import Derived.Test.YtbnpejijfnigaaaCut4
namespace Go.Proofs.Ytbnpejijfnigaaa
set_option linter.unusedVariables false
namespace Cut
theorem textLen_end : ∀ (l : List UInt8) (k : Nat), textLen l k ≠ 0 → ∃ j, textLen l k = k + j ∧ j ≤ l.length ∧ (l.drop j = [] ∨ ∃ c r, l.drop j = c :: r ∧ c.toNat = 60)
  | [], k, h => ⟨0, by simp [textLen], by simp, .inl (by simp)⟩
  | c :: r, k, h => by
    unfold textLen at h ⊢
    split
    · rename_i h6
      exact ⟨0, rfl, by simp, .inr ⟨c, r, by simp, h6⟩⟩
    · rename_i h6
      rw [if_neg h6] at h
      split
      · rename_i h2
        rw [if_pos h2] at h
        exact absurd rfl h
      · rename_i h2
        rw [if_neg h2] at h
        obtain ⟨j, hj, hle, hd⟩ := textLen_end r (k + 1) h
        exact ⟨j + 1, by omega, by simp; omega, by simpa using hd⟩
theorem good_ok {l : List UInt8} (h0 : l ≠ []) (hg : good l = true) : pieceLen l ≠ 0 := by
  intro h
  unfold good at hg
  rw [told_bad h0 h] at hg
  simp at hg
theorem good_drop {l : List UInt8} (h0 : l ≠ []) (hg : good l = true) : good (l.drop (pieceLen l)) = true := by
  have h := good_ok h0 hg
  unfold good at *
  rw [told_ok h0 h] at hg
  simpa using hg
theorem texts_ok {l : List UInt8} (h0 : l ≠ []) (hg : good l = true) : texts l = l.take (pieceLen l) :: texts (l.drop (pieceLen l)) := by
  unfold texts
  rw [told_ok h0 (good_ok h0 hg)]
  rfl
theorem head_take {l : List UInt8} {n : Nat} (hn : n ≠ 0) : (l.take n).head? = l.head? := by
  cases l with
  | nil => simp
  | cons c r =>
    obtain ⟨m, rfl⟩ := Nat.exists_eq_succ_of_ne_zero hn
    simp
theorem piece_next {l : List UInt8} (h0 : l ≠ []) (hp : pieceLen l ≠ 0) (hn : l.head? ≠ some 60) : l.drop (pieceLen l) = [] ∨ (l.drop (pieceLen l)).head? = some 60 := by
  obtain ⟨c, r, rfl⟩ := List.exists_cons_of_ne_nil h0
  have hc : c.toNat ≠ 60 := fun e => hn (by rw [List.head?_cons]; exact congrArg some (UInt8.toNat_inj.1 e))
  have e : pieceLen (c :: r) = textLen (c :: r) 0 := by
    unfold pieceLen
    simp only
    rw [if_neg hc]
  rw [e] at hp ⊢
  obtain ⟨j, hj, hle, hd⟩ := textLen_end _ _ hp
  rw [hj, Nat.zero_add]
  rcases hd with hd | ⟨d, q, hd, h6⟩
  · exact .inl hd
  · exact .inr (by rw [hd, List.head?_cons]; exact congrArg some (UInt8.toNat_inj.1 h6))
theorem texts_head {l : List UInt8} (hg : good l = true) {t : List UInt8} (h : (texts l)[0]? = some t) : t.head? = l.head? := by
  by_cases h0 : l = []
  · subst h0; simp [texts, told_nil] at h
  · rw [texts_ok h0 hg] at h
    simp at h
    rw [← h, head_take (good_ok h0 hg)]
theorem whole : ∀ (n : Nat) (l : List UInt8), l.length ≤ n → good l = true → (texts l).flatten = l ∧ (∀ (i : Nat) (t : List UInt8), (texts l)[i]? = some t → t ≠ []) ∧ (∀ (i : Nat) (t u : List UInt8), (texts l)[i]? = some t → (texts l)[i + 1]? = some u → t.head? = some 60 ∨ u.head? = some 60)
  | n, [], _, _ => by simp [texts, told_nil]
  | 0, c :: r, h, _ => by simp at h
  | n + 1, c :: r, h, hg => by
    have h0 : c :: r ≠ [] := by simp
    have hp := good_ok h0 hg
    have hd := good_drop h0 hg
    have ht := texts_ok h0 hg
    have hle : ((c :: r).drop (pieceLen (c :: r))).length ≤ n := by simp only [List.length_drop, List.length_cons] at *; omega
    obtain ⟨i1, i2, i3⟩ := whole n _ hle hd
    refine ⟨?_, ?_, ?_⟩
    · rw [ht, List.flatten_cons, i1, List.take_append_drop]
    · intro i t hi
      rw [ht] at hi
      cases i with
      | zero =>
        simp only [List.getElem?_cons_zero, Option.some.injEq] at hi
        rw [← hi]
        intro e
        have := congrArg List.head? e
        rw [head_take hp] at this
        simp at this
      | succ i => exact i2 i t (by simpa using hi)
    · intro i t u hi hu
      rw [ht] at hi hu
      cases i with
      | zero =>
        simp only [List.getElem?_cons_zero, Option.some.injEq] at hi
        have hu' : (texts ((c :: r).drop (pieceLen (c :: r))))[0]? = some u := by simpa using hu
        by_cases hc : (c :: r).head? = some 60
        · left; rw [← hi, head_take hp, hc]
        · right
          rw [texts_head hd hu']
          rcases piece_next h0 hp hc with e | e
          · rw [e] at hu'
            simp [texts, told_nil] at hu'
          · exact e
      | succ i => exact i3 i t u (by simpa using hi) (by simpa using hu)
end Cut
end Go.Proofs.Ytbnpejijfnigaaa
