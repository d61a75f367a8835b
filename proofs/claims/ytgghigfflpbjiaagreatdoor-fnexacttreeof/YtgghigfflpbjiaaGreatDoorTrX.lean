/- Elements as the program's tree; TreeFault of the program. Condition: the table of entities lies as its initialiser lays it. -/
import Derived.Test.YtgghigfflpbjiaaGreatDoorTrW
import Derived.Test.YtgghigfflpbjiaaGreatDoorTrI
namespace Go.Proofs.YtgghigfflpbjiaaGreatDoor
open Go.RowKit
set_option linter.unusedVariables false
namespace Tr
/-- The places, ahead of n, of those whose parent is j. -/
def kidsN (es : List ElemD) (n j : Nat) : List Nat := (List.range n).filter fun i => (es[i]?.map (·.parent)) == some (j : Int)
theorem kidsN_succ {es : List ElemD} {n j : Nat} (h : n < es.length) : kidsN es (n + 1) j = kidsN es n j ++ (if (j : Int) = es[n].parent then [n] else []) := by
  unfold kidsN
  rw [List.range_succ, List.filter_append]
  congr 1
  by_cases e : (j : Int) = es[n].parent
  · simp [List.getElem?_eq_getElem h, e]
  · have : ¬ (es[n].parent = (j : Int)) := fun h => e h.symm
    simp [List.getElem?_eq_getElem h, e, this]
theorem kidsN_lt {es : List ElemD} {n j : Nat} (hn : 0 < n) (h : n ≤ es.length) (h0 : ∀ h : 0 < es.length, es[0].parent < 0) : (kidsN es n j).length < n := by
  unfold kidsN
  have : List.range n = 0 :: (List.range (n - 1)).map (· + 1) := by
    rw [← List.range_succ_eq_map]; congr 1; omega
  rw [this, List.filter_cons]
  have hb : ((es[0]?.map (·.parent)) == some (j : Int)) = false := by
    rw [List.getElem?_eq_getElem (by omega), Option.map_some, beq_eq_false_iff_ne]
    intro e
    have e2 := Option.some.inj e
    have := h0 (by omega)
    omega
  rw [hb]
  have := List.length_filter_le (fun i => (es[i]?.map (·.parent)) == some (j : Int)) ((List.range (n - 1)).map (· + 1))
  simp only [List.length_map, List.length_range] at this
  simp only [Bool.false_eq_true, if_false]
  omega
/-- The tree is that of the elements, as far as n. -/
structure TreeIs (w : World) (es : List ElemD) (n : Nat) (T : Nat → Br) : Prop where
  tag : ∀ j (h : j < es.length), j < n → (T j).tag = es[j].tag
  par : ∀ j (h : j < es.length), j < n → (T j).par = es[j].parent
  va : ∀ j (h : j < es.length), j < n → AttrsAt w 0 (T j).va es[j].attrs
  kids : ∀ j, j < n → (T j).kids = kidsN es n j
  low : ∀ j (h : j < es.length), j < n → es[j].parent < j
theorem TreeIs.below {w w' : World} {es : List ElemD} {n : Nat} {T : Nat → Br} (h : TreeIs w es n T) (hb : ∀ {v ats}, AttrsAt w 0 v ats → AttrsAt w' 0 v ats) : TreeIs w' es n T := ⟨h.tag, h.par, fun j h1 h2 => hb (h.va j h1 h2), h.kids, h.low⟩
theorem TreeIs.grew {w : World} {es : List ElemD} {n d : Nat} {T T' : Nat → Br} {va : Value} (h : TreeIs w es n T) (hn : n < es.length) (hg : Grew T T' n es[n].parent es[n].tag va d) (hva : AttrsAt w 0 va es[n].attrs) (hlow : es[n].parent < n) : TreeIs w es (n + 1) T' := by
  refine ⟨fun j h1 h2 => ?_, fun j h1 h2 => ?_, fun j h1 h2 => ?_, fun j h2 => ?_, fun j h1 h2 => ?_⟩
  · by_cases e : j = n
    · subst e; exact hg.tag
    · rw [(hg.old j (by omega)).1]; exact h.tag j h1 (by omega)
  · by_cases e : j = n
    · subst e; exact hg.par
    · rw [(hg.old j (by omega)).2.1]; exact h.par j h1 (by omega)
  · by_cases e : j = n
    · subst e; rw [hg.va]; exact hva
    · rw [(hg.old j (by omega)).2.2.1]; exact h.va j h1 (by omega)
  · rw [kidsN_succ hn]
    by_cases e : j = n
    · subst e
      rw [hg.kids, if_neg (by omega), List.append_nil]
      symm
      unfold kidsN
      rw [List.filter_eq_nil_iff]
      intro i hi
      have hi' : i < j := by simpa using hi
      rw [List.getElem?_eq_getElem (by omega), Option.map_some, beq_iff_eq]
      intro e
      have e2 := Option.some.inj e
      have := h.low i (by omega) hi'
      omega
    · rw [(hg.old j (by omega)).2.2.2.2, h.kids j (by omega)]
  · by_cases e : j = n
    · subst e; exact hlow
    · exact h.low j h1 (by omega)
theorem TreeIs.start (w : World) (es : List ElemD) (T : Nat → Br) : TreeIs w es 0 T := ⟨fun j _ h => by omega, fun j _ h => by omega, fun j _ h => by omega, fun j h => by omega, fun j _ h => by omega⟩
theorem f_range {es : List ElemD} {i : Nat} {S : List Nat} (h : i < es.length) (hp : (i = 0 ∧ es[i].parent ≠ -1) ∨ (0 < i ∧ ¬ (0 ≤ es[i].parent ∧ es[i].parent < i))) : fcode i S es[i].parent = 3 := by
  have : pfault i S es[i].parent = 3 := by
    unfold pfault
    rcases hp with ⟨h0, hp⟩ | ⟨h0, hp⟩
    · rw [if_pos h0, if_neg hp]
    · rw [if_neg (by omega), if_neg hp]
  unfold fcode
  rw [this]
  rfl
theorem f_form {es : List ElemD} {i : Nat} {S : List Nat} (h : i < es.length) (hp : ¬ ((i = 0 ∧ es[i].parent ≠ -1) ∨ (0 < i ∧ ¬ (0 ≤ es[i].parent ∧ es[i].parent < i)))) (hf : 0 < i ∧ onPath es[i].parent S = false) : fcode i S es[i].parent = 1 := by
  have : pfault i S es[i].parent = 1 := by
    unfold pfault
    rw [if_neg (by omega), if_pos (Classical.byContradiction (fun e => hp (.inr ⟨hf.1, e⟩))), hf.2]
    rfl
  unfold fcode
  rw [this]
  rfl
theorem f_else {es : List ElemD} {i : Nat} {S : List Nat} (h : i < es.length) (hp : ¬ ((i = 0 ∧ es[i].parent ≠ -1) ∨ (0 < i ∧ ¬ (0 ≤ es[i].parent ∧ es[i].parent < i)))) (hf : ¬ (0 < i ∧ onPath es[i].parent S = false)) : fcode i S es[i].parent = if 8 < (cutTo es[i].parent S).length + 1 then 2 else 0 := by
  have : pfault i S es[i].parent = 0 := by
    unfold pfault
    by_cases h0 : i = 0
    · rw [if_pos h0, if_pos (Classical.byContradiction (fun e => hp (.inl ⟨h0, e⟩)))]
    · rw [if_neg h0, if_pos (Classical.byContradiction (fun e => hp (.inr ⟨by omega, e⟩)))]
      cases hb : onPath es[i].parent S
      · exact absurd ⟨by omega, hb⟩ hf
      · rfl
  unfold fcode
  rw [this]
  rfl
theorem low_of {es : List ElemD} {i : Nat} (h : i < es.length) (hp : ¬ ((i = 0 ∧ es[i].parent ≠ -1) ∨ (0 < i ∧ ¬ (0 ≤ es[i].parent ∧ es[i].parent < i)))) : es[i].parent < i := by
  rcases Nat.eq_zero_or_pos i with h0 | h0
  · have : ¬ es[i].parent ≠ -1 := fun e => hp (.inl ⟨h0, e⟩)
    omega
  · have : ¬ ¬ (0 ≤ es[i].parent ∧ es[i].parent < i) := fun e => hp (.inr ⟨h0, e⟩)
    omega
/-- How far the program has come. -/
structure Built (w wr : World) (es : List ElemD) (i : Nat) (S : List Nat) (v : Value) (T : Nat → Br) : Prop where
  seen : Seen es i S
  tree : TreeAt wr w.heap.size v i T
  is : TreeIs w es i T
  deep : DeepOn T S
  below : Below w.heap.size w wr
theorem Built.lens {w wr : World} {es : List ElemD} {i : Nat} {S : List Nat} {v : Value} {T : Nat → Br} (h : Built w wr es i S v T) : ∀ j, j < i → (T j).kids.length < i := fun j hj => by
  rw [h.is.kids j hj]
  exact kidsN_lt (by omega) h.seen.le (fun h0 => by have := h.is.low 0 h0 (by omega); simpa using this)
end Tr
end Go.Proofs.YtgghigfflpbjiaaGreatDoor
