/- Plain facts about trees of marks, of no program: names, values, attrs, what is wrong with a tree. -/
import Derived.WalkKit
namespace Go.Proofs.YtpmlialjoonpeaaGreatDoor
set_option linter.unusedVariables false
namespace Tr
structure AttrD where
  name : ByteArray
  value : ByteArray
structure ElemD where
  tag : ByteArray
  parent : Int
  attrs : List AttrD
def ints (l : List Nat) : List Int := l.map fun (n : Nat) => (n : Int)
/-- The last place of a path, -1 where there is none. -/
def top : List Nat → Int
  | [] => -1
  | a :: _ => a
/-- A path: each stands below the next, the last below none. -/
def Chain (es : List ElemD) : List Nat → Prop
  | [] => True
  | a :: r => (∃ e, es[a]? = some e ∧ e.parent = top r) ∧ top r < a ∧ Chain es r
def cutTo (p : Int) : List Nat → List Nat
  | [] => []
  | a :: r => if (a : Int) = p then a :: r else cutTo p r
def onPath (p : Int) (S : List Nat) : Bool := S.any fun a => decide ((a : Int) = p)
theorem top_lt {es : List ElemD} {a : Nat} {r : List Nat} (h : Chain es (a :: r)) : top r < a := h.2.1
theorem top_ge (S : List Nat) : -1 ≤ top S := by
  cases S with
  | nil => exact Int.le_refl _
  | cons a r => show (-1 : Int) ≤ (a : Int); omega
theorem chain_tail {es : List ElemD} {a : Nat} {r : List Nat} (h : Chain es (a :: r)) : Chain es r := h.2.2
theorem chain_cut {es : List ElemD} {p : Int} : ∀ {S : List Nat}, Chain es S → Chain es (cutTo p S)
  | [], h => trivial
  | a :: r, h => by
    unfold cutTo
    split
    · exact h
    · exact chain_cut h.2.2
theorem top_cut {p : Int} : ∀ {S : List Nat}, onPath p S = true → top (cutTo p S) = p
  | [], h => by simp [onPath] at h
  | a :: r, h => by
    unfold cutTo
    split
    · next he => simpa [top] using he
    · next he =>
      refine top_cut ?_
      simpa [onPath, he] using h
theorem cut_le {p : Int} : ∀ {S : List Nat}, (cutTo p S).length ≤ S.length
  | [] => Nat.le_refl _
  | a :: r => by
    unfold cutTo
    split
    · exact Nat.le_refl _
    · exact Nat.le_trans cut_le (by simp)
/-- All of a path but the first stand ahead of the first. -/
theorem on_lt {es : List ElemD} {p : Int} : ∀ {S : List Nat}, Chain es S → onPath p S = true → p ≤ top S
  | [], _, h => by simp [onPath] at h
  | a :: r, hc, h => by
    simp only [onPath, List.any_cons, Bool.or_eq_true, decide_eq_true_eq] at h
    rcases h with h | h
    · simp [top]; omega
    · have := on_lt hc.2.2 h
      have := hc.2.1
      simp [top]; omega
theorem on_nonneg {p : Int} {S : List Nat} (h : onPath p S = true) : 0 ≤ p := by
  simp only [onPath, List.any_eq_true, decide_eq_true_eq] at h
  obtain ⟨a, _, h⟩ := h
  omega
theorem onPath_cons {p : Int} {a : Nat} {r : List Nat} : onPath p (a :: r) = (decide ((a : Int) = p) || onPath p r) := rfl
theorem cut_yes {p : Int} {a : Nat} {r : List Nat} (h : (a : Int) = p) : cutTo p (a :: r) = a :: r := by rw [cutTo, if_pos h]
theorem cut_no {p : Int} {a : Nat} {r : List Nat} (h : (a : Int) ≠ p) : cutTo p (a :: r) = cutTo p r := by rw [cutTo, if_neg h]

/-! ### names and values -/
def azByte (c : UInt8) : Bool := decide (97 ≤ c.toNat) && decide (c.toNat ≤ 122)
def azAll (l : List UInt8) : Bool := l.all azByte
def nf (l : List UInt8) : Int := if azAll l = false then 5 else if l.length = 0 then 5 else if 8 < l.length then 2 else 0
def plainB (c : UInt8) : Bool := decide (32 ≤ c.toNat) && decide (c.toNat ≤ 126)
def plainAll (l : List UInt8) : Bool := l.all plainB
def vcode (l : List UInt8) : Int := if 40 < l.length then 2 else if plainAll l = false then 5 else 0
def hasName (l : List AttrD) (nm : ByteArray) : Bool := l.any fun a => a.name.toList == nm.toList
def acodeFrom (pre : List AttrD) : List AttrD → Int
  | [] => 0
  | a :: r => if nf a.name.data.toList ≠ 0 then nf a.name.data.toList else if hasName pre a.name then 6 else if vcode a.value.data.toList ≠ 0 then vcode a.value.data.toList else acodeFrom (pre ++ [a]) r
def acode (l : List AttrD) : Int := acodeFrom [] l

/-! ### what is wrong with a tree -/
def faultFrom (i : Nat) (S : List Nat) : List ElemD → Int
  | [] => 0
  | e :: r =>
    if nf e.tag.data.toList ≠ 0 then nf e.tag.data.toList
    else if (i = 0 ∧ e.parent ≠ -1) ∨ (0 < i ∧ ¬ (0 ≤ e.parent ∧ e.parent < i)) then 3
    else if 0 < i ∧ onPath e.parent S = false then 1
    else if 8 < (cutTo e.parent S).length + 1 ∨ 6 < e.attrs.length then 2
    else if acode e.attrs ≠ 0 then acode e.attrs
    else faultFrom (i + 1) (i :: cutTo e.parent S) r
def fault (es : List ElemD) : Int := if es.length < 1 ∨ 40 < es.length then 2 else faultFrom 0 [] es
/-- How far a tree is looked through with nothing found. -/
structure Seen (es : List ElemD) (i : Nat) (S : List Nat) : Prop where
  le : i ≤ es.length
  chain : Chain es S
  deep : S.length ≤ 8
  first : top S = (i : Int) - 1
  same : fault es = faultFrom i S (es.drop i)
theorem Seen.start {es : List ElemD} (h1 : ¬ es.length < 1) (h2 : ¬ 40 < es.length) : Seen es 0 [] :=
  ⟨Nat.zero_le _, trivial, by simp, rfl, by unfold fault; rw [if_neg (by omega)]; rfl⟩
theorem drop_cons {es : List ElemD} {i : Nat} (h : i < es.length) : es.drop i = es[i] :: es.drop (i + 1) := List.drop_eq_getElem_cons h
theorem Seen.name {es : List ElemD} {i : Nat} {S : List Nat} (s : Seen es i S) (h : i < es.length) (hn : nf es[i].tag.data.toList ≠ 0) : fault es = nf es[i].tag.data.toList := by
  rw [s.same, drop_cons h, faultFrom, if_pos hn]
theorem Seen.range {es : List ElemD} {i : Nat} {S : List Nat} (s : Seen es i S) (h : i < es.length) (hn : nf es[i].tag.data.toList = 0)
    (hp : (i = 0 ∧ es[i].parent ≠ -1) ∨ (0 < i ∧ ¬ (0 ≤ es[i].parent ∧ es[i].parent < i))) : fault es = 3 := by
  rw [s.same, drop_cons h, faultFrom, if_neg (by simp [hn]), if_pos hp]
theorem Seen.form {es : List ElemD} {i : Nat} {S : List Nat} (s : Seen es i S) (h : i < es.length) (hn : nf es[i].tag.data.toList = 0)
    (hp : ¬ ((i = 0 ∧ es[i].parent ≠ -1) ∨ (0 < i ∧ ¬ (0 ≤ es[i].parent ∧ es[i].parent < i)))) (hf : 0 < i ∧ onPath es[i].parent S = false) : fault es = 1 := by
  rw [s.same, drop_cons h, faultFrom, if_neg (by simp [hn]), if_neg hp, if_pos hf]
theorem Seen.many {es : List ElemD} {i : Nat} {S : List Nat} (s : Seen es i S) (h : i < es.length) (hn : nf es[i].tag.data.toList = 0)
    (hp : ¬ ((i = 0 ∧ es[i].parent ≠ -1) ∨ (0 < i ∧ ¬ (0 ≤ es[i].parent ∧ es[i].parent < i)))) (hf : ¬ (0 < i ∧ onPath es[i].parent S = false))
    (hm : 8 < (cutTo es[i].parent S).length + 1 ∨ 6 < es[i].attrs.length) : fault es = 2 := by
  rw [s.same, drop_cons h, faultFrom, if_neg (by simp [hn]), if_neg hp, if_neg hf, if_pos hm]
theorem Seen.attr {es : List ElemD} {i : Nat} {S : List Nat} (s : Seen es i S) (h : i < es.length) (hn : nf es[i].tag.data.toList = 0)
    (hp : ¬ ((i = 0 ∧ es[i].parent ≠ -1) ∨ (0 < i ∧ ¬ (0 ≤ es[i].parent ∧ es[i].parent < i)))) (hf : ¬ (0 < i ∧ onPath es[i].parent S = false))
    (hm : ¬ (8 < (cutTo es[i].parent S).length + 1 ∨ 6 < es[i].attrs.length)) (ha : acode es[i].attrs ≠ 0) : fault es = acode es[i].attrs := by
  rw [s.same, drop_cons h, faultFrom, if_neg (by simp [hn]), if_neg hp, if_neg hf, if_neg hm, if_pos ha]
/-- The path of the next element. -/
theorem next_chain {es : List ElemD} {i : Nat} {S : List Nat} (hc : Chain es S) (h1 : top S = (i : Int) - 1) (h : i < es.length)
    (hp : ¬ ((i = 0 ∧ es[i].parent ≠ -1) ∨ (0 < i ∧ ¬ (0 ≤ es[i].parent ∧ es[i].parent < i)))) (hf : ¬ (0 < i ∧ onPath es[i].parent S = false)) :
    Chain es (i :: cutTo es[i].parent S) := by
  have e1 : es[i].parent = top (cutTo es[i].parent S) := by
    rcases Nat.eq_zero_or_pos i with h0 | h0
    · subst h0
      cases S with
      | nil => have : ¬ es[0].parent ≠ -1 := fun e => hp (.inl ⟨rfl, e⟩)
               show es[0].parent = -1
               omega
      | cons a r => exact absurd h1 (by show ¬ ((a : Int) = (0 : Nat) - 1); omega)
    · refine (top_cut ?_).symm
      cases hb : onPath es[i].parent S
      · exact absurd ⟨h0, hb⟩ hf
      · rfl
  refine ⟨⟨es[i], List.getElem?_eq_getElem h, e1⟩, ?_, chain_cut hc⟩
  rw [← e1]
  rcases Nat.eq_zero_or_pos i with h0 | h0
  · have : ¬ es[i].parent ≠ -1 := fun e => hp (.inl ⟨h0, e⟩)
    omega
  · have : ¬ ¬ (0 ≤ es[i].parent ∧ es[i].parent < i) := fun e => hp (.inr ⟨h0, e⟩)
    omega
theorem Seen.next {es : List ElemD} {i : Nat} {S : List Nat} (s : Seen es i S) (h : i < es.length) (hn : nf es[i].tag.data.toList = 0)
    (hp : ¬ ((i = 0 ∧ es[i].parent ≠ -1) ∨ (0 < i ∧ ¬ (0 ≤ es[i].parent ∧ es[i].parent < i)))) (hf : ¬ (0 < i ∧ onPath es[i].parent S = false))
    (hm : ¬ (8 < (cutTo es[i].parent S).length + 1 ∨ 6 < es[i].attrs.length)) (ha : acode es[i].attrs = 0) : Seen es (i + 1) (i :: cutTo es[i].parent S) := by
  refine ⟨h, next_chain s.chain s.first h hp hf, by simp only [List.length_cons]; omega, by simp [top], ?_⟩
  rw [s.same, drop_cons h, faultFrom, if_neg (by simp [hn]), if_neg hp, if_neg hf, if_neg hm, if_neg (by simp [ha])]
theorem Seen.done {es : List ElemD} {i : Nat} {S : List Nat} (s : Seen es i S) (h : ¬ i < es.length) : fault es = 0 := by
  rw [s.same, List.drop_eq_nil_of_le (by omega)]; rfl
theorem fault_many {es : List ElemD} (h : es.length < 1 ∨ 40 < es.length) : fault es = 2 := by unfold fault; rw [if_pos h]
/-! ### attrs -/
structure SeenA (l : List AttrD) (k : Nat) : Prop where
  le : k ≤ l.length
  same : acode l = acodeFrom (l.take k) (l.drop k)
theorem SeenA.start (l : List AttrD) : SeenA l 0 := ⟨Nat.zero_le _, by simp [acode]⟩
theorem dropA {l : List AttrD} {i : Nat} (h : i < l.length) : l.drop i = l[i] :: l.drop (i + 1) := List.drop_eq_getElem_cons h
theorem SeenA.name {l : List AttrD} {k : Nat} (s : SeenA l k) (h : k < l.length) (hn : nf l[k].name.data.toList ≠ 0) : acode l = nf l[k].name.data.toList := by
  rw [s.same, dropA h, acodeFrom, if_pos hn]
theorem SeenA.taken {l : List AttrD} {k : Nat} (s : SeenA l k) (h : k < l.length) (hn : nf l[k].name.data.toList = 0) (ht : hasName (l.take k) l[k].name = true) : acode l = 6 := by
  rw [s.same, dropA h, acodeFrom, if_neg (by simp [hn]), if_pos ht]
theorem SeenA.value {l : List AttrD} {k : Nat} (s : SeenA l k) (h : k < l.length) (hn : nf l[k].name.data.toList = 0) (ht : hasName (l.take k) l[k].name = false) (hv : vcode l[k].value.data.toList ≠ 0) : acode l = vcode l[k].value.data.toList := by
  rw [s.same, dropA h, acodeFrom, if_neg (by simp [hn]), if_neg (by simp [ht]), if_pos hv]
theorem SeenA.next {l : List AttrD} {k : Nat} (s : SeenA l k) (h : k < l.length) (hn : nf l[k].name.data.toList = 0) (ht : hasName (l.take k) l[k].name = false) (hv : vcode l[k].value.data.toList = 0) : SeenA l (k + 1) := by
  refine ⟨h, ?_⟩
  rw [s.same, dropA h, acodeFrom, if_neg (by simp [hn]), if_neg (by simp [ht]), if_neg (by simp [hv]), List.take_succ_eq_append_getElem h]
theorem SeenA.done {l : List AttrD} {k : Nat} (s : SeenA l k) (h : ¬ k < l.length) : acode l = 0 := by
  rw [s.same, List.drop_eq_nil_of_le (by omega)]; rfl
end Tr
end Go.Proofs.YtpmlialjoonpeaaGreatDoor
