/- Plain facts about lists of bytes, of no program: where a piece of a text ends, and into which pieces it is cut. -/
import Derived.Lib.Strings
import Derived.Lib.IndexBytes
import Derived.Lib.IndexAny
namespace Go.Proofs.Ytbnpejijfnigaaa
set_option linter.unusedVariables false
namespace Cut
/-- The first place of a list at which p begins. -/
def fe (p : List UInt8) : List UInt8 → Option Nat
  | [] => none
  | c :: r => if p.isPrefixOf (c :: r) then some 0 else (fe p r).map (· + 1)
def endBy (p : List UInt8) (m : Nat) (l : List UInt8) : Nat := match fe p l with
  | none => 0
  | some i => m + i + p.length
def comB : List UInt8 := [60, 33, 45, 45]
def comE : List UInt8 := [45, 45, 62]
def markLen (l : List UInt8) : Nat := if comB.isPrefixOf l then endBy comE 4 (l.drop 4) else endBy [62] 0 l
/-- The first place with one of the two signs; none: all of it; a 62: not whole. -/
def textLen : List UInt8 → Nat → Nat
  | [], k => k
  | c :: r, k => if c.toNat = 60 then k else if c.toNat = 62 then 0 else textLen r (k + 1)
def pieceLen (l : List UInt8) : Nat := match l with
  | [] => 0
  | c :: r => if c.toNat = 60 then markLen l else textLen l 0
/-- What is told of a text: the pieces that are whole, and the first that is not. -/
def seqF : Nat → List UInt8 → List (List UInt8 × Bool)
  | 0, _ => []
  | f + 1, [] => []
  | f + 1, c :: r => if pieceLen (c :: r) = 0 then [(c :: r, false)] else ((c :: r).take (pieceLen (c :: r)), true) :: seqF f ((c :: r).drop (pieceLen (c :: r)))
def told (l : List UInt8) : List (List UInt8 × Bool) := seqF l.length l

theorem fe_lt {p : List UInt8} : ∀ {l : List UInt8} {i : Nat}, fe p l = some i → i + p.length ≤ l.length
  | [], i, h => by simp [fe] at h
  | c :: r, i, h => by
    unfold fe at h
    split at h
    · rename_i hp
      have hpl := List.IsPrefix.length_le (List.isPrefixOf_iff_prefix.1 hp)
      cases h
      omega
    · obtain ⟨j, hj, rfl⟩ := Option.map_eq_some_iff.1 h
      have := fe_lt hj
      simp only [List.length_cons]
      omega
theorem fe_drop_yes {p l : List UInt8} {j : Nat} (h : fe p l = (fe p (l.drop j)).map (· + j)) (hj : j < l.length) (hp : p.isPrefixOf (l.drop j) = true) : fe p l = some j := by
  rw [h]
  rw [List.drop_eq_getElem_cons hj] at hp ⊢
  simp only [fe, hp]
  simp
theorem fe_drop_no {p l : List UInt8} {j : Nat} (h : fe p l = (fe p (l.drop j)).map (· + j)) (hj : j < l.length) (hp : p.isPrefixOf (l.drop j) = false) : fe p l = (fe p (l.drop (j + 1))).map (· + (j + 1)) := by
  rw [h]
  rw [List.drop_eq_getElem_cons hj] at hp ⊢
  simp only [fe, hp]
  cases fe p (l.drop (j + 1)) <;> simp
  omega
theorem fe_drop_end {p l : List UInt8} {j : Nat} (h : fe p l = (fe p (l.drop j)).map (· + j)) (hj : l.length ≤ j) : fe p l = none := by
  rw [h, List.drop_eq_nil_of_le hj]; rfl
theorem fe_zero (p l : List UInt8) : fe p l = (fe p (l.drop 0)).map (· + 0) := by simp
theorem pre_one (c : UInt8) (l : List UInt8) (j : Nat) (hj : j < l.length) : [c].isPrefixOf (l.drop j) = (c == l[j]) := by
  rw [List.drop_eq_getElem_cons hj]; unfold List.isPrefixOf; simp [List.isPrefixOf]
theorem markLen_le {l : List UInt8} : markLen l ≤ l.length := by
  unfold markLen
  split
  · unfold endBy
    split
    · omega
    · rename_i i hi
      have := fe_lt hi
      simp only [List.length_drop] at this
      rename_i hp _
      have hl : 4 ≤ l.length := List.IsPrefix.length_le (List.isPrefixOf_iff_prefix.1 hp)
      have : comE.length = 3 := rfl
      omega
  · unfold endBy
    split
    · omega
    · rename_i i hi
      have := fe_lt hi
      omega
theorem textLen_le : ∀ (l : List UInt8) (k : Nat), textLen l k ≤ k + l.length
  | [], k => by simp [textLen]
  | c :: r, k => by
    unfold textLen
    have := textLen_le r (k + 1)
    simp only [List.length_cons]
    split
    · omega
    · split
      · omega
      · omega
theorem pieceLen_le (l : List UInt8) : pieceLen l ≤ l.length := by
  cases l with
  | nil => simp [pieceLen]
  | cons c r =>
    unfold pieceLen
    simp only
    split
    · exact markLen_le
    · have := textLen_le (c :: r) 0; omega
theorem seqF_more : ∀ (f g : Nat) (l : List UInt8), l.length ≤ f → l.length ≤ g → seqF f l = seqF g l
  | 0, 0, l, _, _ => rfl
  | 0, g + 1, l, h, _ => by
    obtain rfl : l = [] := List.length_eq_zero_iff.1 (by omega)
    rfl
  | f + 1, 0, l, _, h => by
    obtain rfl : l = [] := List.length_eq_zero_iff.1 (by omega)
    rfl
  | f + 1, g + 1, [], _, _ => rfl
  | f + 1, g + 1, c :: r, h1, h2 => by
    unfold seqF
    split
    · rfl
    · rename_i hn
      have hd : ((c :: r).drop (pieceLen (c :: r))).length ≤ r.length := by simp only [List.length_drop, List.length_cons]; omega
      rw [seqF_more f g _ (by simp at h1; omega) (by simp at h2; omega)]
theorem told_nil : told [] = [] := rfl
theorem told_bad {l : List UInt8} (h0 : l ≠ []) (h : pieceLen l = 0) : told l = [(l, false)] := by
  obtain ⟨c, r, rfl⟩ := List.exists_cons_of_ne_nil h0
  simp [told, seqF, h]
theorem told_ok {l : List UInt8} (h0 : l ≠ []) (h : pieceLen l ≠ 0) : told l = (l.take (pieceLen l), true) :: told (l.drop (pieceLen l)) := by
  obtain ⟨c, r, rfl⟩ := List.exists_cons_of_ne_nil h0
  unfold told
  simp only [List.length_cons, seqF, h, if_false]
  rw [seqF_more r.length _ _ (by simp only [List.length_drop, List.length_cons]; omega) (Nat.le_refl _)]
end Cut
end Go.Proofs.Ytbnpejijfnigaaa
