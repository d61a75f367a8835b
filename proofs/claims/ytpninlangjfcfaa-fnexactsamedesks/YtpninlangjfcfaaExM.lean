/- Plain facts about expressions, of no program. -/
import Derived.Test.YtpninlangjfcfaaNd
namespace Go.Proofs.Ytpninlangjfcfaa
open Go.RowKit
set_option linter.unusedVariables false
namespace Ex
open Nd (NodeD)
theorem hid {p : Prop} (h : p) : Hid p := h
def inR (v a b : Int) : Bool := decide (a ≤ v) && decide (v ≤ b)
def two (k : Int) : Bool := inR k 3 9
def vFault (xs : List Int) : Int := if xs.length ≠ 4 then 2 else if xs.all (fun x => inR x (-1000000) 1000000) = true then 0 else 3
theorem v_len {xs : List Int} (h : xs.length ≠ 4) : vFault xs = 2 := by unfold vFault; rw [if_pos h]
theorem v_ok {xs : List Int} (h : xs.length = 4) (h2 : ∀ i (hi : i < xs.length), inR xs[i] (-1000000) 1000000 = true) : vFault xs = 0 := by
  unfold vFault
  rw [if_neg (by simp [h]), if_pos]
  rw [List.all_eq_true]
  intro x hx
  obtain ⟨i, hi, rfl⟩ := List.getElem_of_mem hx
  exact h2 i hi
theorem v_bad {xs : List Int} (h : xs.length = 4) {i : Nat} (hi : i < xs.length) (h2 : inR xs[i] (-1000000) 1000000 = false) : vFault xs = 3 := by
  unfold vFault
  rw [if_neg (by simp [h]), if_neg]
  rw [List.all_eq_true]
  intro hx
  have := hx xs[i] (List.getElem_mem hi)
  rw [h2] at this
  cases this
/-- The code of a node at a place. -/
def has (n : NodeD) : Bool := (decide (n.kind ≤ 2) && ((n.left != 0) || (n.right != 0))) || (!decide (n.kind ≤ 2) && (n.value != 0)) || ((n.kind == 10) && (n.right != 0))
def wide (n : NodeD) : Bool := ((n.kind == 1) && !inR n.value 0 9999) || ((n.kind == 2) && !inR n.value 0 3)
def far (n : NodeD) (i : Int) : Bool := (!decide (n.kind ≤ 2) && !inR n.left 0 (i - 1)) || (two n.kind && !inR n.right 0 (i - 1))
def nCode (n : NodeD) (i : Int) : Int := if inR n.kind 1 10 = false then 1 else if has n = true then 1 else if wide n = true then 3 else if far n i = true then 3 else 0
theorem n_kind {n : NodeD} {i : Int} (h : inR n.kind 1 10 = false) : nCode n i = 1 := by unfold nCode; rw [if_pos h]
theorem n_has {n : NodeD} {i : Int} (h : inR n.kind 1 10 = true) (h2 : has n = true) : nCode n i = 1 := by unfold nCode; rw [if_neg (by simp [h]), if_pos h2]
theorem n_wide {n : NodeD} {i : Int} (h : inR n.kind 1 10 = true) (h2 : has n = false) (h3 : wide n = true) : nCode n i = 3 := by unfold nCode; rw [if_neg (by simp [h]), if_neg (by simp [h2]), if_pos h3]
theorem n_far {n : NodeD} {i : Int} (h : inR n.kind 1 10 = true) (h2 : has n = false) (h3 : wide n = false) (h4 : far n i = true) : nCode n i = 3 := by unfold nCode; rw [if_neg (by simp [h]), if_neg (by simp [h2]), if_neg (by simp [h3]), if_pos h4]
theorem n_ok {n : NodeD} {i : Int} (h : inR n.kind 1 10 = true) (h2 : has n = false) (h3 : wide n = false) (h4 : far n i = false) : nCode n i = 0 := by unfold nCode; rw [if_neg (by simp [h]), if_neg (by simp [h2]), if_neg (by simp [h3]), if_neg (by simp [h4])]
theorem of_n {n : NodeD} {i : Int} (h : nCode n i = 0) : inR n.kind 1 10 = true ∧ has n = false ∧ wide n = false ∧ far n i = false := by
  unfold nCode at h
  by_cases h1 : inR n.kind 1 10 = false
  · rw [if_pos h1] at h; omega
  rw [if_neg h1] at h
  by_cases h2 : has n = true
  · rw [if_pos h2] at h; omega
  rw [if_neg h2] at h
  by_cases h3 : wide n = true
  · rw [if_pos h3] at h; omega
  rw [if_neg h3] at h
  by_cases h4 : far n i = true
  · rw [if_pos h4] at h; omega
  exact ⟨by simpa using h1, by simpa using h2, by simpa using h3, by simpa using h4⟩
theorem inR_iff {v a b : Int} : inR v a b = true ↔ a ≤ v ∧ v ≤ b := by simp [inR]
theorem inR_not {v a b : Int} : inR v a b = false ↔ ¬ (a ≤ v ∧ v ≤ b) := by rw [← inR_iff]; simp
/-- Where a node with nothing wrong has its parts. -/
theorem n_left {n : NodeD} {i : Int} (h : nCode n i = 0) (hk : 2 < n.kind) : 0 ≤ n.left ∧ n.left < i := by
  have h4 := (of_n h).2.2.2
  unfold far at h4
  simp only [Bool.or_eq_false_iff, Bool.and_eq_false_iff, Bool.not_eq_false', decide_eq_true_eq] at h4
  rcases h4.1 with h5 | h5
  · omega
  · have := inR_iff.1 h5; omega
theorem n_right {n : NodeD} {i : Int} (h : nCode n i = 0) (hk : two n.kind = true) : 0 ≤ n.right ∧ n.right < i := by
  have h4 := (of_n h).2.2.2
  unfold far at h4
  simp only [Bool.or_eq_false_iff, Bool.and_eq_false_iff, Bool.not_eq_false', decide_eq_true_eq] at h4
  rcases h4.2 with h5 | h5
  · rw [hk] at h5; cases h5
  · have := inR_iff.1 h5; omega
def NJ (ns : List NodeD) (k : Nat) : NodeD := ns[k]?.getD ⟨0, 0, 0, 0⟩
theorem NJ_eq {ns : List NodeD} {k : Nat} (h : k < ns.length) : NJ ns k = ns[k] := by unfold NJ; rw [List.getElem?_eq_getElem h]; rfl
/-- The nodes in the order in which they have to stand, as the walk tells them; at most so many. -/
def walkF (ns : List NodeD) : Nat → Nat → List Nat → List Nat
  | 0, _, out => out
  | f + 1, k, out => if 16 < out.length then out else
    (if two (NJ ns k).kind = true then walkF ns f (NJ ns k).right.toNat (if 2 < (NJ ns k).kind then walkF ns f (NJ ns k).left.toNat out else out) else (if 2 < (NJ ns k).kind then walkF ns f (NJ ns k).left.toNat out else out)) ++ [k]
theorem walk_len (ns : List NodeD) : ∀ (f k : Nat) (out : List Nat), (walkF ns f k out).length ≤ max out.length 16 + f
  | 0, k, out => by rw [walkF]; omega
  | f + 1, k, out => by
    rw [walkF]
    split
    · omega
    · rename_i h
      have e1 : (if 2 < (NJ ns k).kind then walkF ns f (NJ ns k).left.toNat out else out).length ≤ max out.length 16 + f := by
        split
        · exact walk_len ns f _ _
        · omega
      rw [List.length_append, List.length_singleton]
      by_cases ht : two (NJ ns k).kind = true
      · rw [if_pos ht]
        generalize (if 2 < (NJ ns k).kind then walkF ns f (NJ ns k).left.toNat out else out) = o1 at *
        by_cases h16 : 16 < o1.length
        · have : walkF ns f (NJ ns k).right.toNat o1 = o1 := by
            cases f with
            | zero => rfl
            | succ f => rw [walkF, if_pos h16]
          rw [this]; omega
        · have := walk_len ns f (NJ ns k).right.toNat o1
          omega
      · rw [if_neg ht]; omega
def eCodeTo (ns : List NodeD) : Nat → Int
  | 0 => 0
  | n + 1 => if eCodeTo ns n ≠ 0 then eCodeTo ns n else nCode (NJ ns n) n
def order (ns : List NodeD) : List Nat := walkF ns ns.length (ns.length - 1) []
def eFault (ns : List NodeD) : Int := if ns.length < 1 ∨ 16 < ns.length then 2 else if eCodeTo ns ns.length ≠ 0 then eCodeTo ns ns.length else if order ns = List.range ns.length then 0 else 1
theorem e_many {ns : List NodeD} (h : ns.length < 1 ∨ 16 < ns.length) : eFault ns = 2 := by unfold eFault; rw [if_pos h]
theorem code_to {ns : List NodeD} : ∀ {m n : Nat}, m ≤ n → eCodeTo ns m ≠ 0 → eCodeTo ns n = eCodeTo ns m
  | m, 0, h, h2 => by obtain rfl : m = 0 := by omega
                      rfl
  | m, n + 1, h, h2 => by
    by_cases e : m = n + 1
    · rw [e]
    · have h3 := code_to (m := m) (n := n) (by omega) h2
      rw [eCodeTo, if_pos (by rw [h3]; exact h2), h3]
theorem code_all {ns : List NodeD} : ∀ {n : Nat}, eCodeTo ns n = 0 → ∀ k, k < n → nCode (NJ ns k) k = 0
  | 0, _, k, hk => by omega
  | n + 1, h, k, hk => by
    rw [eCodeTo] at h
    by_cases h1 : eCodeTo ns n ≠ 0
    · rw [if_pos h1] at h; exact absurd h h1
    · rw [if_neg h1] at h
      by_cases e : k = n
      · rw [e]; exact h
      · exact code_all (by simpa using h1) k (by omega)
theorem e_node {ns : List NodeD} (h : ¬ (ns.length < 1 ∨ 16 < ns.length)) {i : Nat} (hi : i < ns.length) (h2 : eCodeTo ns i = 0) (h3 : nCode ns[i] i ≠ 0) : eFault ns = nCode ns[i] i := by
  have e : eCodeTo ns (i + 1) = nCode ns[i] i := by rw [eCodeTo, if_neg (by simp [h2]), NJ_eq hi]
  have e2 := code_to (ns := ns) (m := i + 1) (n := ns.length) (by omega) (by rw [e]; exact h3)
  unfold eFault
  rw [if_neg h, if_pos (by rw [e2, e]; exact h3), e2, e]
theorem code_next {ns : List NodeD} {i : Nat} (hi : i < ns.length) (h2 : eCodeTo ns i = 0) (h3 : nCode ns[i] i = 0) : eCodeTo ns (i + 1) = 0 := by
  rw [eCodeTo, if_neg (by simp [h2]), NJ_eq hi, h3]
theorem e_ok {ns : List NodeD} (h : ¬ (ns.length < 1 ∨ 16 < ns.length)) (h2 : eCodeTo ns ns.length = 0) (h3 : order ns = List.range ns.length) : eFault ns = 0 := by
  unfold eFault; rw [if_neg h, if_neg (by simp [h2]), if_pos h3]
theorem e_form {ns : List NodeD} (h : ¬ (ns.length < 1 ∨ 16 < ns.length)) (h2 : eCodeTo ns ns.length = 0) (h3 : order ns ≠ List.range ns.length) : eFault ns = 1 := by
  unfold eFault; rw [if_neg h, if_neg (by simp [h2]), if_neg h3]
theorem order_len {ns : List NodeD} (h : ¬ 16 < ns.length) : (order ns).length ≤ 32 := by
  have := walk_len ns ns.length (ns.length - 1) []
  unfold order
  simp only [List.length_nil] at this
  omega
theorem range_of {l : List Nat} {n : Nat} (h : l.length = n) (h2 : ∀ i (hi : i < l.length), l[i] = i) : l = List.range n := by
  apply List.ext_getElem (by simpa using h)
  intro i h1 h3
  rw [h2 i h1]
  simp
theorem range_not {l : List Nat} {n i : Nat} (hi : i < l.length) (h2 : l[i] ≠ i) : l ≠ List.range n := by
  intro e
  subst e
  simp at h2
end Ex
end Go.Proofs.Ytpninlangjfcfaa
