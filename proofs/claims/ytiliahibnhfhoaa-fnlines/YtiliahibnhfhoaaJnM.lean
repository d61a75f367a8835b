/- Lines of a journal, as plain functions of lists of bytes. No condition. -/
import Derived.Test.YtiliahibnhfhoaaProg
namespace Go.Proofs.Ytiliahibnhfhoaa
set_option linter.unusedVariables false
namespace Jn
def bad (b : UInt8) : Bool := decide (b.toNat < 32) || decide (126 < b.toNat)
def faultC (s : List UInt8) : Int := if s.length < 1 ∨ 40 < s.length then 2 else if s.any bad then 5 else 0
def stepV (s : Nat) (b : UInt8) : Nat := (s * 251 + b.toNat) % 65521
def sumV (l : List UInt8) : Nat := l.foldl stepV 1
def by8 (n : Nat) : UInt8 := UInt8.ofNat n
def headL (s : List UInt8) : List UInt8 := by8 s.length :: s
def packL (s : List UInt8) : List UInt8 := headL s ++ [by8 (sumV (headL s) / 256), by8 (sumV (headL s) % 256)]
def packR (s : List UInt8) : List UInt8 := if faultC s = 0 then packL s else []
def lenN (d : List UInt8) : Nat := match d with | [] => 0 | n :: _ => n.toNat
def oneL (d : List UInt8) : List UInt8 := (d.drop 1).take (lenN d)
def oneB (d : List UInt8) : Bool := decide (lenN d + 3 ≤ d.length) && (decide (faultC (oneL d) = 0) && decide (packL (oneL d) = d.take (lenN d + 3)))
def oneN (d : List UInt8) : Nat := if oneB d then lenN d + 3 else 0
def oneS (d : List UInt8) : List UInt8 := if oneB d then oneL d else []
def readF : Nat → List UInt8 → List (List UInt8) × Nat
  | 0, _ => ([], 0)
  | f + 1, d => if oneN d = 0 then ([], 0) else (oneS d :: (readF f (d.drop (oneN d))).1, oneN d + (readF f (d.drop (oneN d))).2)
def readL (d : List UInt8) : List (List UInt8) × Nat := readF d.length d
def anyF (d : List UInt8) (k : Nat) : Bool := (List.range d.length).any fun i => decide (k < i) && decide (0 < oneN (d.drop i))
theorem fault_many {s : List UInt8} (h : s.length < 1 ∨ 40 < s.length) : faultC s = 2 := by unfold faultC; rw [if_pos h]
theorem fault_text {s : List UInt8} (h0 : 1 ≤ s.length) (h1 : s.length ≤ 40) {i : Nat} (hi : i < s.length) (hb : bad s[i] = true) : faultC s = 5 := by
  unfold faultC
  rw [if_neg (by omega), if_pos (List.any_eq_true.2 ⟨s[i], List.getElem_mem hi, hb⟩)]
theorem fault_ok {s : List UInt8} (h0 : 1 ≤ s.length) (h1 : s.length ≤ 40) (h : ∀ i (hi : i < s.length), bad s[i] = false) : faultC s = 0 := by
  unfold faultC
  rw [if_neg (by omega), if_neg]
  intro ha
  obtain ⟨b, hm, hb⟩ := List.any_eq_true.1 ha
  obtain ⟨i, hi, rfl⟩ := List.getElem_of_mem hm
  rw [h i hi] at hb
  cases hb
theorem fault_len {s : List UInt8} (h : faultC s = 0) : 1 ≤ s.length ∧ s.length ≤ 40 := by
  unfold faultC at h
  by_cases h1 : s.length < 1 ∨ 40 < s.length
  · rw [if_pos h1] at h; cases h
  · omega
theorem fault_range (s : List UInt8) : 0 ≤ faultC s ∧ faultC s ≤ 5 := by
  unfold faultC
  split
  · omega
  · split <;> omega
theorem step_lt (s : Nat) (b : UInt8) : stepV s b < 65521 := Nat.mod_lt _ (by omega)
theorem fold_lt : ∀ (l : List UInt8) (s : Nat), s < 65521 → l.foldl stepV s < 65521
  | [], s, h => h
  | b :: l, s, h => fold_lt l _ (step_lt s b)
theorem sum_lt (l : List UInt8) : sumV l < 65521 := fold_lt l 1 (by omega)
theorem sum_take {l : List UInt8} {j : Nat} (h : j < l.length) : sumV (l.take (j + 1)) = stepV (sumV (l.take j)) l[j] := by
  unfold sumV
  rw [List.take_succ_eq_append_getElem h, List.foldl_append]
  rfl
theorem head_len (s : List UInt8) : (headL s).length = s.length + 1 := by simp [headL]
theorem pack_len (s : List UInt8) : (packL s).length = s.length + 3 := by simp [packL, head_len]
theorem packR_len (s : List UInt8) : (packR s).length ≤ 43 := by
  unfold packR
  split
  · rename_i h; have := fault_len h; rw [pack_len]; omega
  · simp
theorem of_oneB {d : List UInt8} (h : oneB d = true) : lenN d + 3 ≤ d.length ∧ faultC (oneL d) = 0 ∧ packL (oneL d) = d.take (lenN d + 3) := by
  unfold oneB at h
  rw [Bool.and_eq_true, Bool.and_eq_true] at h
  exact ⟨of_decide_eq_true h.1, of_decide_eq_true h.2.1, of_decide_eq_true h.2.2⟩
theorem oneN_le (d : List UInt8) : oneN d ≤ d.length := by
  unfold oneN
  split
  · rename_i h; exact (of_oneB h).1
  · omega
theorem oneL_len {d : List UInt8} (h : lenN d + 3 ≤ d.length) : (oneL d).length = lenN d := by
  unfold oneL
  rw [List.length_take, List.length_drop]
  omega
theorem oneN_zero {d : List UInt8} (h : oneB d = false) : oneN d = 0 ∧ oneS d = [] := by
  unfold oneN oneS
  rw [h]
  exact ⟨rfl, rfl⟩
theorem oneN_pos {d : List UInt8} (h : oneB d = true) : oneN d = lenN d + 3 ∧ oneS d = oneL d := by
  unfold oneN oneS
  rw [h]
  exact ⟨rfl, rfl⟩
theorem oneN_bound (d : List UInt8) : oneN d ≤ 43 := by
  unfold oneN
  split
  · rename_i h
    have h1 := of_oneB h
    have h2 := fault_len h1.2.1
    rw [oneL_len h1.1] at h2
    omega
  · omega
theorem readF_more : ∀ (f g : Nat) (d : List UInt8), d.length ≤ f → d.length ≤ g → readF f d = readF g d
  | 0, 0, d, _, _ => rfl
  | 0, g + 1, d, h, _ => by
    have : oneN d = 0 := by have := oneN_le d; omega
    simp only [readF]; rw [if_pos this]
  | f + 1, 0, d, _, h => by
    have : oneN d = 0 := by have := oneN_le d; omega
    simp only [readF]; rw [if_pos this]
  | f + 1, g + 1, d, h1, h2 => by
    simp only [readF]
    by_cases h : oneN d = 0
    · rw [if_pos h, if_pos h]
    · have hl : (d.drop (oneN d)).length ≤ d.length - 1 := by rw [List.length_drop]; omega
      have hd := oneN_le d
      rw [if_neg h, if_neg h, readF_more f g (d.drop (oneN d)) (by omega) (by omega)]
theorem read_stop {d : List UInt8} (h : oneN d = 0) : readL d = ([], 0) := by
  unfold readL
  cases hd : d.length with
  | zero => rfl
  | succ k => simp only [readF]; rw [if_pos h]
theorem read_step {d : List UInt8} (h : 0 < oneN d) : readL d = (oneS d :: (readL (d.drop (oneN d))).1, oneN d + (readL (d.drop (oneN d))).2) := by
  have hn := oneN_le d
  unfold readL
  obtain ⟨k, hk⟩ : ∃ k, d.length = k + 1 := ⟨d.length - 1, by omega⟩
  have hl : (d.drop (oneN d)).length ≤ k := by rw [List.length_drop]; omega
  rw [hk]
  simp only [readF]
  rw [if_neg (by omega), readF_more k (d.drop (oneN d)).length (d.drop (oneN d)) hl (Nat.le_refl _)]
theorem read_le : ∀ (f : Nat) (d : List UInt8), (readF f d).2 ≤ d.length
  | 0, d => Nat.zero_le _
  | f + 1, d => by
    simp only [readF]
    by_cases h : oneN d = 0
    · rw [if_pos h]; exact Nat.zero_le _
    · rw [if_neg h]
      have h1 := read_le f (d.drop (oneN d))
      have h2 := oneN_le d
      rw [List.length_drop] at h1
      show oneN d + _ ≤ _
      omega
theorem readL_le (d : List UInt8) : (readL d).2 ≤ d.length := read_le _ d
theorem read_count : ∀ (f : Nat) (d : List UInt8), 4 * (readF f d).1.length ≤ (readF f d).2
  | 0, d => Nat.zero_le _
  | f + 1, d => by
    simp only [readF]
    by_cases h : oneN d = 0
    · rw [if_pos h]; exact Nat.zero_le _
    · rw [if_neg h]
      have h1 := read_count f (d.drop (oneN d))
      have h2 : 4 ≤ oneN d := by
        by_cases hb : oneB d = true
        · have h3 := of_oneB hb
          have h4 := fault_len h3.2.1
          rw [oneL_len h3.1] at h4
          rw [(oneN_pos hb).1]
          omega
        · exact absurd (oneN_zero (by simpa using hb)).1 h
      show 4 * (_ + 1) ≤ oneN d + _
      omega
theorem readL_count (d : List UInt8) : 4 * (readL d).1.length ≤ d.length := Nat.le_trans (read_count _ d) (readL_le d)
end Jn
end Go.Proofs.Ytiliahibnhfhoaa
