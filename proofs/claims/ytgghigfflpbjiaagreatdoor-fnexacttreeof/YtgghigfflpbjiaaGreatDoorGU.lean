/- Laid together: Nst, TfA, TfC, TfD, TfE. -/
import Derived.Test.YtgghigfflpbjiaaGreatDoorProg
import Derived.WalkKit
import Derived.Below
import Derived.Laws.AppendOwn
import Derived.Laws.OwnMore
import Derived.Test.YtgghigfflpbjiaaGreatDoorGC
import Derived.RangeFuncBox
import Derived.Maps.AppendAt
import Derived.Test.YtgghigfflpbjiaaGreatDoorGQ
import Derived.Test.YtgghigfflpbjiaaGreatDoorGO
import Derived.Test.YtgghigfflpbjiaaGreatDoorGP
import Derived.Test.YtgghigfflpbjiaaGreatDoorGT
import Derived.Deep.CutRange
/- Rows of records that hold rows of their own, as a function makes them itself: each row lies in a block of its own. -/
namespace Go.Proofs.YtgghigfflpbjiaaGreatDoor
open Go.RowKit
set_option linter.unusedVariables false
namespace Nst
def own (v : Value) (b : Nat) : Prop := v.ownBlock = some b
def flat (f : Nat → List Value) (n : Nat) : List Value := (List.range n).flatMap f
theorem flat_succ (f : Nat → List Value) (n : Nat) : flat f (n + 1) = flat f n ++ f n := by simp [flat, List.range_succ]
theorem flat_len {f : Nat → List Value} {z : Nat} : ∀ n, (∀ j, j < n → (f j).length = z) → (flat f n).length = n * z
  | 0, _ => by simp [flat]
  | n + 1, h => by rw [flat_succ, List.length_append, flat_len n (fun j hj => h j (by omega)), h n (by omega), Nat.succ_mul]
theorem mul_lt {j n c z : Nat} (hj : j < n) (hc : c < z) : j * z + c < n * z := by
  have h1 : (j + 1) * z ≤ n * z := Nat.mul_le_mul_right z hj
  rw [Nat.succ_mul] at h1
  omega
theorem flat_get {f : Nat → List Value} {z : Nat} : ∀ {n j c : Nat}, (∀ j, j < n → (f j).length = z) → j < n → c < z → (flat f n)[j * z + c]? = (f j)[c]?
  | 0, j, c, h, hj, _ => by omega
  | n + 1, j, c, h, hj, hc => by
    rw [flat_succ]
    have hl := flat_len (f := f) n (fun j hj => h j (by omega))
    by_cases e : j = n
    · subst e
      rw [List.getElem?_append_right (by rw [hl]; omega), hl, Nat.add_sub_cancel_left]
    · have := mul_lt (j := j) (n := n) (by omega) hc
      rw [List.getElem?_append_left (by rw [hl]; exact this)]
      exact flat_get (fun j hj => h j (by omega)) (by omega) hc
theorem flat_congr {f g : Nat → List Value} : ∀ {n : Nat}, (∀ j, j < n → f j = g j) → flat f n = flat g n
  | 0, _ => rfl
  | n + 1, h => by rw [flat_succ, flat_succ, h n (by omega), flat_congr (fun j hj => h j (by omega))]
theorem flat_set {f : Nat → List Value} {z : Nat} : ∀ {n j c : Nat}, (∀ j, j < n → (f j).length = z) → j < n → c < z → ∀ (u : Value), (flat f n).set (j * z + c) u = flat (fun i => if i = j then (f j).set c u else f i) n
  | 0, j, c, h, hj, hc, u => by omega
  | n + 1, j, c, h, hj, hc, u => by
    rw [flat_succ, flat_succ]
    have hl := flat_len (f := f) n (fun j hj => h j (by omega))
    by_cases e : j = n
    · subst e
      rw [List.set_append_right _ _ (by rw [hl]; omega), hl, Nat.add_sub_cancel_left, if_pos rfl]
      congr 1
      exact flat_congr (fun i hi => by rw [if_neg (by omega)])
    · have := mul_lt (j := j) (n := n) (by omega) hc
      rw [List.set_append_left _ _ (by rw [hl]; exact this), flat_set (fun j hj => h j (by omega)) (by omega) hc, if_neg (fun e2 => e e2.symm)]
theorem own_lt {w : World} {B : Nat} {e : TypeId} {size n b : Nat} {v : Value} {xs : List Value} (h : w.ownsRow B e size v n xs) (hb : own v b) : B ≤ b ∧ b < w.heap.size := h.lt b hb
theorem own_kept {w w' : World} {B : Nat} {e : TypeId} {size n : Nat} {v : Value} {xs : List Value} (h : w.ownsRow B e size v n xs) (hb : ∀ b, own v b → w'.heap[b]? = w.heap[b]?) : w'.ownsRow B e size v n xs := by
  refine ⟨h.1, ?_⟩
  rcases h.2 with hn | ⟨g, cap, cur, rfl, hbg, hg, rest⟩
  · exact .inl hn
  · exact .inr ⟨g, cap, cur, rfl, hbg, by rw [hb g rfl]; exact hg, rest⟩
theorem own_mono {w : World} {B B' : Nat} {e : TypeId} {size n : Nat} {v : Value} {xs : List Value} (h : w.ownsRow B e size v n xs) (hb : B' ≤ B) : w.ownsRow B' e size v n xs := by
  refine ⟨h.1, ?_⟩
  rcases h.2 with hn | ⟨g, cap, cur, rfl, hbg, rest⟩
  · exact .inl hn
  · exact .inr ⟨g, cap, cur, rfl, Nat.le_trans hb hbg, rest⟩
theorem own_slice {w : World} {B : Nat} {e : TypeId} {size n : Nat} {v : Value} {xs : List Value} (h : w.ownsRow B e size v n xs) : ∃ a cap, v = .slice a n cap := by
  rcases h.2 with ⟨rfl, rfl⟩ | ⟨g, cap, cur, rfl, _⟩
  · exact ⟨_, _, rfl⟩
  · exact ⟨_, _, rfl⟩
theorem own_some {w : World} {B : Nat} {e : TypeId} {size n : Nat} {v : Value} {xs : List Value} (h : w.ownsRow B e size v n xs) (h0 : 0 < n) : ∃ g cap, v = .slice (some ⟨g, 0, none⟩) n cap ∧ B ≤ g ∧ g < w.heap.size ∧ n ≤ cap ∧ cap ≤ maxLen := by
  rcases h.2 with ⟨rfl, rfl⟩ | ⟨g, cap, cur, rfl, hb, hh, h1, h2, _⟩
  · omega
  · exact ⟨g, cap, rfl, hb, (Array.getElem?_eq_some_iff.1 hh).1, h1, h2⟩
/-- A row inside a record. -/
structure Sub where
  ty : TypeId
  sz : Nat
  v : Value
  n : Nat
  xs : List Value
def Sub.At (w : World) (B : Nat) (s : Sub) : Prop := w.ownsRow B s.ty s.sz s.v s.n s.xs
/-- n records of z cells each (record j is c j), and m rows inside them. -/
structure At (w : World) (B : Nat) (e : TypeId) (z : Nat) (v : Value) (n : Nat) (c : Nat → List Value) (m : Nat) (s : Nat → Sub) : Prop where
  row : w.ownsRow B e z v n (flat c n)
  sub : ∀ i, i < m → (s i).At w B
  sep : ∀ i j, i < m → j < m → i ≠ j → ∀ b, own (s i).v b → ¬ own (s j).v b
  sepv : ∀ i, i < m → ∀ b, own (s i).v b → ¬ own v b
section
variable {w w' : World} {B : Nat} {e : TypeId} {z : Nat} {v : Value} {n : Nat} {c : Nat → List Value} {m : Nat} {s : Nat → Sub}
theorem At.kept (h : At w B e z v n c m s) (hv : ∀ b, own v b → w'.heap[b]? = w.heap[b]?) (hs : ∀ i, i < m → ∀ b, own (s i).v b → w'.heap[b]? = w.heap[b]?) : At w' B e z v n c m s :=
  ⟨own_kept h.row hv, fun i hi => own_kept (h.sub i hi) (hs i hi), h.sep, h.sepv⟩
theorem At.keep (h : At w B e z v n c m s) (hb : ∀ b, B ≤ b → b < w.heap.size → w'.heap[b]? = w.heap[b]?) : At w' B e z v n c m s :=
  h.kept (fun b hv => hb b (own_lt h.row hv).1 (own_lt h.row hv).2) (fun i hi b hs => hb b (own_lt (h.sub i hi) hs).1 (own_lt (h.sub i hi) hs).2)
theorem At.below (h : At w B e z v n c m s) (hb : Below w.heap.size w w') : At w' B e z v n c m s := h.keep (fun b _ hl => hb.block b hl)
theorem At.mono {B' : Nat} (h : At w B e z v n c m s) (hb : B' ≤ B) : At w B' e z v n c m s := ⟨own_mono h.row hb, fun i hi => own_mono (h.sub i hi) hb, h.sep, h.sepv⟩
theorem At.nil (w : World) (B : Nat) (e : TypeId) (z : Nat) (c : Nat → List Value) (s : Nat → Sub) : At w B e z (.slice none 0 0) 0 c 0 s :=
  ⟨World.ownsRow_nil w B e z, fun i h => by omega, fun i j h => by omega, fun i h => by omega⟩
theorem At.congr {c' : Nat → List Value} {s' : Nat → Sub} (h : At w B e z v n c m s) (hc : ∀ j, j < n → c' j = c j) (hs : ∀ i, i < m → s' i = s i) : At w B e z v n c' m s' :=
  ⟨by rw [flat_congr hc]; exact h.row, fun i hi => by rw [hs i hi]; exact h.sub i hi, fun i j hi hj hij b => by rw [hs i hi, hs j hj]; exact h.sep i j hi hj hij b, fun i hi b => by rw [hs i hi]; exact h.sepv i hi b⟩
/-- The cells of a record. -/
theorem At.cell {g cap : Nat} (h : At w B e z (.slice (some ⟨g, 0, none⟩) n cap) n c m s) (hc : ∀ j, j < n → (c j).length = z) {j i : Nat} (hj : j < n) (hi : i < z) : w.cell? ⟨g, j * z + i, none⟩ = (c j)[i]? := by
  rw [h.row.cellAt (j * z + i) (mul_lt hj hi)]
  exact flat_get hc hj hi
theorem At.free {g cap : Nat} (h : At w B e z (.slice (some ⟨g, 0, none⟩) n cap) n c m s) (i : Nat) : w.frozen? ⟨g, i, none⟩ = false := h.row.frozenAt i
/-- A cell of a record is set. -/
theorem At.setRow {g cap : Nat} (h : At w B e z (.slice (some ⟨g, 0, none⟩) n cap) n c m s) (hc : ∀ j, j < n → (c j).length = z) {j i : Nat} (hj : j < n) (hi : i < z) (u : Value) :
    At (w.setCell ⟨g, j * z + i, none⟩ u) B e z (.slice (some ⟨g, 0, none⟩) n cap) n (fun x => if x = j then (c j).set i u else c x) m s := by
  have hst := h.row.stored (j * z + i) u
  rw [flat_set hc hj hi] at hst
  refine ⟨hst.1, fun q hq => ?_, h.sep, h.sepv⟩
  refine World.ownsRow.kept (h.sub q hq) hst.2 ?_
  cases hb : (s q).v.ownBlock with
  | none => exact .inl rfl
  | some b => exact .inr (fun e2 => h.sepv q hq b hb e2.symm)
/-- A row inside a record has turned, and nothing else. -/
theorem At.setSub (h : At w B e z v n c m s) {q : Nat} (hq : q < m) {xs : List Value} (hx : w'.ownsRow B (s q).ty (s q).sz (s q).v (s q).n xs) (hg : w.grownBy w' (s q).v.ownBlock) :
    At w' B e z v n c m (fun i => if i = q then { s q with xs := xs } else s i) := by
  refine ⟨h.row.kept hg ?_, fun i hi => ?_, fun i j hi hj hij b => ?_, fun i hi b => ?_⟩
  · cases hb : v.ownBlock with
    | none => exact .inl rfl
    | some b => exact .inr (fun e2 => h.sepv q hq b e2.symm hb)
  · by_cases ei : i = q
    · subst ei
      simp only [if_true]
      exact hx
    · simp only [ei, if_false]
      refine World.ownsRow.kept (h.sub i hi) hg ?_
      cases hb : (s i).v.ownBlock with
      | none => exact .inl rfl
      | some b => exact .inr (fun e2 => h.sep i q hi hq ei b hb e2.symm)
  · have e1 : (if i = q then { s q with xs := xs } else s i).v = (s i).v := by split <;> simp_all
    have e2 : (if j = q then { s q with xs := xs } else s j).v = (s j).v := by split <;> simp_all
    rw [e1, e2]
    exact h.sep i j hi hj hij b
  · have e1 : (if i = q then { s q with xs := xs } else s i).v = (s i).v := by split <;> simp_all
    rw [e1]
    exact h.sepv i hi b
/-- A record behind all others, with p rows of its own. -/
theorem At.push {w2 : World} {v' : Value} {cs : List Value} {p : Nat} {t : Nat → Sub} (h : At w B e z v n c m s) (ht : ∀ i, i < p → (t i).At w B) (htt : ∀ i j, i < p → j < p → i ≠ j → ∀ b, own (t i).v b → ¬ own (t j).v b)
    (hts : ∀ i j, i < m → j < p → ∀ b, own (s i).v b → ¬ own (t j).v b) (htv : ∀ i, i < p → ∀ b, own (t i).v b → ¬ own v b)
    (hown : w2.ownsRow B e z v' (n + 1) (flat c n ++ cs)) (hg : w.grownBy w2 v.ownBlock) (hat : v'.ownBlock = v.ownBlock ∨ v'.ownBlock = some w.heap.size) :
    At w2 B e z v' (n + 1) (fun j => if j = n then cs else c j) (m + p) (fun i => if i < m then s i else t (i - m)) := by
  have hv' : ∀ b, own v' b → own v b ∨ b = w.heap.size := fun b hb => by
    rcases hat with e | e
    · exact .inl (by unfold own; rw [← e]; exact hb)
    · right; unfold own at hb; rw [e] at hb; exact (Option.some.inj hb).symm
  have keep : ∀ {u : Sub}, u.At w B → (∀ b, own u.v b → ¬ own v b) → u.At w2 B := fun {u} hu hne => by
    refine World.ownsRow.kept hu hg ?_
    cases hb : u.v.ownBlock with
    | none => exact .inl rfl
    | some b => exact .inr (fun e2 => hne b hb e2.symm)
  have old : ∀ {u : Sub}, u.At w B → (∀ b, own u.v b → ¬ own v b) → ∀ b, own u.v b → ¬ own v' b := fun {u} hu hne b hb hv => by
    rcases hv' b hv with h3 | h3
    · exact hne b hb h3
    · have := (own_lt hu hb).2
      omega
  refine ⟨?_, fun i hi => ?_, fun i j hi hj hij b => ?_, fun i hi b => ?_⟩
  · rw [flat_succ, if_pos rfl, flat_congr (g := c) (fun j hj => by rw [if_neg (by omega)])]
    exact hown
  · by_cases e1 : i < m
    · simp only [e1, if_true]
      exact keep (h.sub i e1) (h.sepv i e1)
    · simp only [e1, if_false]
      exact keep (ht _ (by omega)) (htv _ (by omega))
  · by_cases e1 : i < m
    · by_cases e2 : j < m
      · simp only [e1, e2, if_true]
        exact h.sep i j e1 e2 hij b
      · simp only [e1, e2, if_true, if_false]
        exact hts i (j - m) e1 (by omega) b
    · by_cases e2 : j < m
      · simp only [e1, e2, if_true, if_false]
        exact fun a1 a2 => hts j (i - m) e2 (by omega) b a2 a1
      · simp only [e1, e2, if_false]
        exact htt (i - m) (j - m) (by omega) (by omega) (by omega) b
  · by_cases e1 : i < m
    · simp only [e1, if_true]
      exact old (h.sub i e1) (h.sepv i e1) b
    · simp only [e1, if_false]
      exact old (ht _ (by omega)) (htv _ (by omega)) b
end
end Nst
end Go.Proofs.YtgghigfflpbjiaaGreatDoor
/- Elements that a function has made itself: a row of them, and a row of attrs for each, in blocks of their own. -/
namespace Go.Proofs.YtgghigfflpbjiaaGreatDoor
open Go.RowKit
set_option linter.unusedVariables false
namespace Tf
open Tr (AttrD ElemD AttrsAt ElemsAt)
open Nst (own)
def aval (a : AttrD) : List Value := [.string a.name, .string a.value]
def avals (l : List AttrD) : List Value := l.flatMap aval
theorem avals_len (l : List AttrD) : (avals l).length = l.length * 2 := by
  induction l with
  | nil => rfl
  | cons a l ih => simp only [avals, List.flatMap_cons, List.length_append, List.length_cons] at ih ⊢; rw [ih]; simp [aval]; omega
theorem avals_snoc (l : List AttrD) (a : AttrD) : avals (l ++ [a]) = avals l ++ aval a := by simp [avals]
theorem avals_get : ∀ (l : List AttrD) (i : Nat) (h : i < l.length), (avals l)[i * 2]? = some (.string l[i].name) ∧ (avals l)[i * 2 + 1]? = some (.string l[i].value)
  | [], i, h => by simp at h
  | a :: l, 0, h => by simp [avals, aval]
  | a :: l, i + 1, h => by
    have ih := avals_get l i (by simpa using h)
    have e : avals (a :: l) = .string a.name :: .string a.value :: avals l := rfl
    rw [e, show (i + 1) * 2 = i * 2 + 2 by omega, show i * 2 + 2 + 1 = (i * 2 + 1) + 2 by omega]
    simpa using ih
def EJ (es : List ElemD) (i : Nat) : ElemD := es[i]?.getD ⟨ByteArray.empty, 0, []⟩
theorem EJ_eq {es : List ElemD} {i : Nat} (h : i < es.length) : EJ es i = es[i] := by unfold EJ; rw [List.getElem?_eq_getElem h, Option.getD_some]
theorem EJ_left {es : List ElemD} {x : ElemD} {i : Nat} (h : i < es.length) : EJ (es ++ [x]) i = EJ es i := by unfold EJ; rw [List.getElem?_append_left h]
theorem EJ_last (es : List ElemD) (x : ElemD) : EJ (es ++ [x]) es.length = x := by unfold EJ; simp
def ecell (e : ElemD) (va : Value) : List Value := [.string e.tag, .int .i64 e.parent, va]
def asub (va : Value) (l : List AttrD) : Nst.Sub := ⟨68, 2, va, l.length, avals l⟩
abbrev EAt (w : World) (B : Nat) (v : Value) (es : List ElemD) (F : Nat → Value) : Prop := Nst.At w B 53 3 v es.length (fun j => ecell (EJ es j) (F j)) es.length (fun j => asub (F j) (EJ es j).attrs)
def EOwn (w : World) (B : Nat) (v : Value) (es : List ElemD) : Prop := ∃ F, EAt w B v es F
theorem ecell_len (e : ElemD) (va : Value) : (ecell e va).length = 3 := rfl
theorem EOwn.below {w w' : World} {B : Nat} {v : Value} {es : List ElemD} (h : EOwn w B v es) (hb : Below w.heap.size w w') : EOwn w' B v es := by
  obtain ⟨F, h⟩ := h; exact ⟨F, h.below hb⟩
theorem EOwn.keep {w w' : World} {B : Nat} {v : Value} {es : List ElemD} (h : EOwn w B v es) (hb : ∀ b, B ≤ b → b < w.heap.size → w'.heap[b]? = w.heap[b]?) : EOwn w' B v es := by
  obtain ⟨F, h⟩ := h; exact ⟨F, h.keep hb⟩
theorem EOwn.mono {w : World} {B B' : Nat} {v : Value} {es : List ElemD} (h : EOwn w B v es) (hb : B' ≤ B) : EOwn w B' v es := by
  obtain ⟨F, h⟩ := h; exact ⟨F, h.mono hb⟩
theorem EOwn.nil (w : World) (B : Nat) : EOwn w B (.slice none 0 0) [] := ⟨fun _ => .slice none 0 0, Nst.At.nil _ _ _ _ _ _⟩
theorem EOwn.slice {w : World} {B : Nat} {v : Value} {es : List ElemD} (h : EOwn w B v es) : ∃ a cap, v = .slice a es.length cap := by
  obtain ⟨F, h⟩ := h; exact Nst.own_slice h.row
theorem attrs_own {w : World} {B : Nat} {va : Value} {l : List AttrD} (h : w.ownsRow B 68 2 va l.length (avals l)) : AttrsAt w B va l := by
  rcases Nat.eq_zero_or_pos l.length with h0 | h0
  · have e : l = [] := List.eq_nil_of_length_eq_zero h0
    subst e
    rcases h.2 with ⟨rfl, _⟩ | ⟨g, cap, cur, rfl, _, _, _, hm, _⟩
    · exact ⟨_, _, rfl, Nat.le_refl _, Nat.zero_le _, .inl rfl⟩
    · exact ⟨_, _, rfl, Nat.zero_le _, hm, .inl rfl⟩
  · obtain ⟨g, cap, rfl, hB, hg, hc, hm⟩ := Nst.own_some h h0
    refine ⟨_, _, rfl, hc, hm, .inr ⟨g, 0, rfl, hB, hg, fun i hi => ?_⟩⟩
    have h1 := h.cellAt (i * 2) (by omega)
    have h2 := h.cellAt (i * 2 + 1) (by omega)
    have h3 := avals_get l i hi
    rw [Nat.zero_add]
    exact ⟨h1.trans h3.1, h2.trans h3.2⟩
theorem EOwn.elems {w : World} {B : Nat} {v : Value} {es : List ElemD} (h : EOwn w B v es) : ElemsAt w B v es := by
  obtain ⟨F, h⟩ := h
  rcases Nat.eq_zero_or_pos es.length with h0 | h0
  · have e : es = [] := List.eq_nil_of_length_eq_zero h0
    subst e
    rcases h.row.2 with ⟨rfl, _⟩ | ⟨g, cap, cur, rfl, _, _, _, hm, _⟩
    · exact ⟨_, _, rfl, Nat.le_refl _, Nat.zero_le _, .inl rfl⟩
    · exact ⟨_, _, rfl, Nat.zero_le _, hm, .inl rfl⟩
  · obtain ⟨g, cap, rfl, hB, hg, hc, hm⟩ := Nst.own_some h.row h0
    refine ⟨_, _, rfl, hc, hm, .inr ⟨g, 0, rfl, hB, hg, fun i hi => ?_⟩⟩
    have hl : ∀ j, j < es.length → (ecell (EJ es j) (F j)).length = 3 := fun j _ => rfl
    have h1 := h.cell hl hi (i := 0) (by omega)
    have h2 := h.cell hl hi (i := 1) (by omega)
    have h3 := h.cell hl hi (i := 2) (by omega)
    have h4 : AttrsAt w B (F i) (EJ es i).attrs := attrs_own (h.sub i hi)
    rw [EJ_eq hi] at h1 h2 h3 h4
    rw [Nat.zero_add]
    exact ⟨h1, h2, F i, h3, h4⟩
theorem push_at {w0 w w2 : World} {B : Nat} {v v' va : Value} {es : List ElemD} {x : ElemD} {F : Nat → Value} (h : EAt w0 B v es F) (hB : B ≤ w0.heap.size) (hb : Below w0.heap.size w0 w)
    (ha : w.ownsRow w0.heap.size 68 2 va x.attrs.length (avals x.attrs)) (hown : w2.ownsRow B 53 3 v' (es.length + 1) (Nst.flat (fun j => ecell (EJ es j) (F j)) es.length ++ ecell x va))
    (hg : w.grownBy w2 v.ownBlock) (hat : v'.ownBlock = v.ownBlock ∨ v'.ownBlock = some w.heap.size) : EOwn w2 B v' (es ++ [x]) := by
  have h1 := h.below hb
  have hva : ∀ b, own va b → w0.heap.size ≤ b := fun b hb => (Nst.own_lt ha hb).1
  have hp := h1.push (p := 1) (t := fun _ => asub va x.attrs) (fun i _ => Nst.own_mono ha hB) (fun i j hi hj hij => by omega)
    (fun i j hi _ b e1 e2 => by have := (Nst.own_lt (h.sub i hi) e1).2; have := hva b e2; omega)
    (fun i _ b e1 e2 => by have := (Nst.own_lt h.row e2).2; have := hva b e1; omega) hown hg hat
  refine ⟨fun j => if j = es.length then va else F j, ?_⟩
  unfold EAt
  rw [List.length_append]
  refine hp.congr (fun j hj => ?_) (fun j hj => ?_)
  · by_cases e : j = es.length
    · subst e
      simp only [if_true, EJ_last]
    · have hl : j < es.length := Nat.lt_of_le_of_ne (Nat.le_of_lt_succ hj) e
      simp only [e, if_false, EJ_left hl]
  · by_cases e : j = es.length
    · subst e
      simp only [if_true, EJ_last, Nat.lt_irrefl, if_false]
    · have hl : j < es.length := Nat.lt_of_le_of_ne (Nat.le_of_lt_succ hj) e
      simp only [e, if_false, EJ_left hl, hl, if_true]
theorem infoAttr : (Tryz.prog.info? 68).map (fun i => (i.zero, i.size, i.bytes)) = some (some (.agg #[.string ⟨#[]⟩, .string ⟨#[]⟩]), 2, 32) := by kernel_rfl
theorem infoElem : (Tryz.prog.info? 53).map (fun i => (i.zero, i.size, i.bytes)) = some (some (.agg #[.string ⟨#[]⟩, .int .i64 0, .slice none 0 0]), 3, 48) := by kernel_rfl
/-- The cells of one record that has just been laid. -/
theorem news {w : World} (cs : Array Value) (t : TypeId) (b : Nat) (hb : b = w.heap.size) : ∀ j u, cs.toList[j]? = some u → (w.alloc (.cells cs t)).cell? ((⟨b, 0, none⟩ : Addr).add j) = some u := by
  subst hb
  intro j u hj
  rw [Go.WideShapes.add_plain]
  simp only [Nat.zero_add, World.cell?_alloc_new]
  simpa using hj
end Tf
end Go.Proofs.YtgghigfflpbjiaaGreatDoor
/- The program's TreeOf. -/
namespace Go.Proofs.YtgghigfflpbjiaaGreatDoor
open Go.RowKit
set_option linter.unusedVariables false
namespace Tf
open Ex (hid inR eFault str str_size textOf implExprText)
open Nd (NodeD)
open St (StepD)
open Tr (AttrD ElemD AttrsAt ElemsAt fault)
open Pf
open Nst (own)
open Go.Lib (decDigits)
/-- Texts in a row, in a block of that range. -/
def SsAt (w : World) (B C : Nat) (v : Value) (l : List ByteArray) : Prop := ∃ a cap, v = .slice a l.length cap ∧ ∀ i (h : i < l.length), ∃ g o, a = some ⟨g, o, none⟩ ∧ B ≤ g ∧ g < C ∧ w.cell? ⟨g, o + i, none⟩ = some (.string l[i])
theorem SsAt.slice {w : World} {B C : Nat} {v : Value} {l : List ByteArray} (h : SsAt w B C v l) : ∃ a cap, v = .slice a l.length cap := by obtain ⟨a, cap, rfl, _⟩ := h; exact ⟨a, cap, rfl⟩
theorem SsAt.at {w : World} {B C : Nat} {a : Option Addr} {n cap : Nat} {l : List ByteArray} (h : SsAt w B C (.slice a n cap) l) {i : Nat} (hi : i < l.length) : ∃ g o, a = some ⟨g, o, none⟩ ∧ B ≤ g ∧ g < C ∧ w.cell? ⟨g, o + i, none⟩ = some (.string l[i]) := by
  obtain ⟨a', cap', e, h⟩ := h; cases e; exact h i hi
theorem SsAt.keep {w w' : World} {B C : Nat} {v : Value} {l : List ByteArray} (h : SsAt w B C v l) (hb : ∀ g, B ≤ g → g < C → w'.heap[g]? = w.heap[g]?) : SsAt w' B C v l := by
  obtain ⟨a, cap, rfl, h⟩ := h
  refine ⟨a, cap, rfl, fun i hi => ?_⟩
  obtain ⟨g, o, rfl, hB, hC, hc⟩ := h i hi
  exact ⟨g, o, rfl, hB, hC, by simp only [World.cell?, hb g hB hC] at hc ⊢; exact hc⟩
def namesL (s : StepD) : List ByteArray := (kindA s).map (·.name)
theorem ss_one {w : World} (x : ByteArray) (t : TypeId) : SsAt (w.alloc (.cells #[.string x] t)) w.heap.size (w.alloc (.cells #[.string x] t)).heap.size (.slice (some ⟨w.heap.size, 0, none⟩) 1 1) [x] := by
  refine ⟨_, 1, rfl, fun i hi => ⟨w.heap.size, 0, rfl, Nat.le_refl _, by simp, ?_⟩⟩
  obtain rfl : i = 0 := by simpa using hi
  go_simp
theorem ss_two {w : World} (x y : ByteArray) (t : TypeId) : SsAt (w.alloc (.cells #[.string x, .string y] t)) w.heap.size (w.alloc (.cells #[.string x, .string y] t)).heap.size (.slice (some ⟨w.heap.size, 0, none⟩) 2 2) [x, y] := by
  refine ⟨_, 2, rfl, fun i hi => ⟨w.heap.size, 0, rfl, Nat.le_refl _, by simp, ?_⟩⟩
  match i, hi with
  | 0, _ => go_simp
  | 1, _ => go_simp
theorem ss_nil (w : World) (B C : Nat) (a : Option Addr) (c : Nat) : SsAt w B C (.slice a 0 c) [] := ⟨a, c, rfl, fun i hi => by simp at hi⟩
theorem kind2 {s : StepD} (h : s.kind = 2) : kindA s = [⟨aName, s.name⟩] := by unfold kindA; rw [if_pos h]
theorem kind5 {s : StepD} (h : s.kind = 5) : kindA s = [⟨aMsg, digs s⟩] := by unfold kindA; rw [if_neg (by omega), if_pos h]
theorem kind6 {s : StepD} (h : s.kind = 6 ∨ s.kind = 8) : kindA s = [⟨aTicks, digs s⟩] := by unfold kindA; rw [if_neg (by omega), if_neg (by omega), if_pos h]
theorem kind7 {s : StepD} (h : s.kind = 7) : kindA s = [⟨aVar, digs s⟩, ⟨aTo, str (textOf s.expr)⟩] := by unfold kindA; rw [if_neg (by omega), if_neg (by omega), if_neg (by omega), if_pos h]
theorem kind0 {s : StepD} (h : s.kind = 1 ∨ s.kind = 3 ∨ s.kind = 4) : kindA s = [] := by unfold kindA; rw [if_neg (by omega), if_neg (by omega), if_neg (by omega), if_neg (by omega)]
set_option maxRecDepth 100000 in
set_option maxHeartbeats 2000000 in
theorem implNames (s : StepD) (w : World) (hk : inR s.kind 1 8 = true) :
    Calls Tryz.prog 49 #[.int .i64 s.kind] w fun e w' => ∃ v, e = .returned v ∧ SsAt w' w.heap.size w'.heap.size v (namesL s) ∧ Below w.heap.size w w' := by
  have HB : ∀ o, Hid (Below w.heap.size w (w.alloc o)) := fun o => hid ((Below.refl _ w).alloc (Nat.le_refl _) _)
  rcases kinds hk with k | k | k | k | k | k | k | k
  · have HN : Hid (namesL s = []) := hid (by unfold namesL; rw [kind0 (by omega)]; rfl)
    rw [k]
    clear k hk
    go_enter Tryz.func49, Tryz.ntmps49
    go_wp2
    go_ret
    exact ⟨_, rfl, by rw [HN.out]; exact ss_nil _ _ _ _ _, Below.refl _ _⟩
  · have HN : Hid (namesL s = [aName]) := hid (by unfold namesL; rw [kind2 k]; rfl)
    rw [k]
    clear k hk
    go_enter Tryz.func49, Tryz.ntmps49
    go_wp2
    go_ret
    exact ⟨_, rfl, by rw [HN.out]; exact ss_one _ _, (HB _).out⟩
  · have HN : Hid (namesL s = []) := hid (by unfold namesL; rw [kind0 (by omega)]; rfl)
    rw [k]
    clear k hk
    go_enter Tryz.func49, Tryz.ntmps49
    go_wp2
    go_ret
    exact ⟨_, rfl, by rw [HN.out]; exact ss_nil _ _ _ _ _, Below.refl _ _⟩
  · have HN : Hid (namesL s = []) := hid (by unfold namesL; rw [kind0 (by omega)]; rfl)
    rw [k]
    clear k hk
    go_enter Tryz.func49, Tryz.ntmps49
    go_wp2
    go_ret
    exact ⟨_, rfl, by rw [HN.out]; exact ss_nil _ _ _ _ _, Below.refl _ _⟩
  · have HN : Hid (namesL s = [aMsg]) := hid (by unfold namesL; rw [kind5 k]; rfl)
    rw [k]
    clear k hk
    go_enter Tryz.func49, Tryz.ntmps49
    go_wp2
    go_ret
    exact ⟨_, rfl, by rw [HN.out]; exact ss_one _ _, (HB _).out⟩
  · have HN : Hid (namesL s = [aTicks]) := hid (by unfold namesL; rw [kind6 (by omega)]; rfl)
    rw [k]
    clear k hk
    go_enter Tryz.func49, Tryz.ntmps49
    go_wp2
    go_ret
    exact ⟨_, rfl, by rw [HN.out]; exact ss_one _ _, (HB _).out⟩
  · have HN : Hid (namesL s = [aVar, aTo]) := hid (by unfold namesL; rw [kind7 k]; rfl)
    rw [k]
    clear k hk
    go_enter Tryz.func49, Tryz.ntmps49
    go_wp2
    go_ret
    exact ⟨_, rfl, by rw [HN.out]; exact ss_two _ _ _, (HB _).out⟩
  · have HN : Hid (namesL s = [aTicks]) := hid (by unfold namesL; rw [kind6 (by omega)]; rfl)
    rw [k]
    clear k hk
    go_enter Tryz.func49, Tryz.ntmps49
    go_wp2
    go_ret
    exact ⟨_, rfl, by rw [HN.out]; exact ss_one _ _, (HB _).out⟩
theorem implClone (s : ByteArray) (w : World) (h : s.size ≤ 1048576) : Calls Tryz.prog 78 #[.string s] w fun e w' => e = .returned (.string s) ∧ Below w.heap.size w w' := by
  go_enter Tryz.func78, Tryz.ntmps78
  go_wp2_with fail
  refine (Tryz.stringslite_Clone s _ (by omega)).mono ?_
  rintro e w1 ⟨rfl, hb1⟩
  go_wp2
  go_ret
  exact ⟨rfl, hb1⟩
def sagg (s : StepD) (vc ve : Value) : Value := .agg #[.int .i64 s.kind, .int .i64 s.parent, .string s.name, .int .i64 s.arg, vc, ve]
abbrev sobj (s : StepD) (vc ve : Value) : Obj := .cells #[.int .i64 s.kind, .int .i64 s.parent, .string s.name, .int .i64 s.arg, vc, ve] 49
def aagg (a : AttrD) : Value := .agg #[.string a.name, .string a.value]
theorem fldT (c : Int) (t : ByteArray) (w : World) : Sem.run Tryz.prog (Instr.field 36 (.agg #[.int .i64 c, .string t]) 1) w = .ok (.string t) w := by kernel_rfl
theorem lit_ne {a b : List UInt8} (h : (a == b) = false) : ((ByteArray.mk a.toArray).toList == (ByteArray.mk b.toArray).toList) = false := by rw [ByteArray.toList_mk, ByteArray.toList_mk]; exact h
theorem lit_eq (a : List UInt8) : ((ByteArray.mk a.toArray).toList == (ByteArray.mk a.toArray).toList) = true := by simp
set_option maxRecDepth 100000 in
set_option maxHeartbeats 2000000 in
theorem tellIf (B : Nat) (s : StepD) (vc ve : Value) (w : World) (hl : s.cond.length ≤ 1048576) (hc : Nd.At w B vc s.cond) (he : Nd.At w B ve s.expr) (ht : Ex.Tab w) :
    Calls Tryz.prog 48 #[sagg s vc ve, .string aIf] w fun e w' => e = .returned (aagg ⟨aIf, str (textOf s.cond)⟩) ∧ Below w.heap.size w w' := by
  obtain ⟨a1, c1, rfl⟩ := hc.slice
  obtain ⟨a2, c2, rfl⟩ := he.slice
  have hb0 : Below w.heap.size w ((w.alloc (sobj s (.slice a1 s.cond.length c1) (.slice a2 s.expr.length c2))).alloc (.cells #[.string ⟨#[]⟩, .string ⟨#[]⟩] 68)) := ((Below.refl _ w).alloc (Nat.le_refl _) _).alloc (by simp) _
  have HX := hid (implExprText B s.cond _ _ hl (hc.below hb0) (ht.below hb0))
  have HB := hid hb0
  have q0 : ((ByteArray.mk #[105, 102]).toList == (ByteArray.mk #[110, 97, 109, 101]).toList) = false := lit_ne (by decide)
  have q1 : ((ByteArray.mk #[105, 102]).toList == (ByteArray.mk #[105, 102]).toList) = true := lit_eq [105, 102]
  clear hc he ht hb0 hl
  unfold sagg aagg aIf
  go_enter Tryz.func48, Tryz.ntmps48
  go_wp2_with fail
  refine HX.out.mono ?_
  rintro e w1 ⟨rfl, hb1⟩
  have B1 : Below w.heap.size w w1 := HB.out.trans (hb1.mono HB.out.size)
  have hz : ((w.alloc (sobj s (.slice a1 s.cond.length c1) (.slice a2 s.expr.length c2))).alloc (.cells #[.string ⟨#[]⟩, .string ⟨#[]⟩] 68)).heap.size = w.heap.size + 2 := by simp
  have u0 := kept_cell hb1 (b := w.heap.size + 1) (o := 0) (v := .string ⟨#[]⟩) (by omega) (by go_simp)
  have u1 := kept_cell hb1 (b := w.heap.size + 1) (o := 1) (v := .string ⟨#[]⟩) (by omega) (by go_simp)
  have x0 := kept_free hb1 (b := w.heap.size + 1) (o := 0) (by omega) (by go_simp)
  have x1 := kept_free hb1 (b := w.heap.size + 1) (o := 1) (by omega) (by go_simp)
  clear HX hb1 hz HB
  have l1 : w.heap.size ≤ w.heap.size + 1 := by omega
  have f1 := fldT (eFault s.cond) (str (textOf s.cond))
  go_wp2
  exact bodyPost_ret (v := .agg #[.string ⟨#[105, 102]⟩, .string (str (textOf s.cond))]) (by simp [results, Tryz.results48, go_sem, u0, u1]) rfl ⟨rfl, setB (setB B1 l1 _) l1 _⟩
set_option maxRecDepth 100000 in
set_option maxHeartbeats 2000000 in
theorem tellName (B : Nat) (s : StepD) (vc ve : Value) (w : World) (hl : s.name.size ≤ 1048576) (hc : Nd.At w B vc s.cond) (he : Nd.At w B ve s.expr) (ht : Ex.Tab w) :
    Calls Tryz.prog 48 #[sagg s vc ve, .string aName] w fun e w' => e = .returned (aagg ⟨aName, s.name⟩) ∧ Below w.heap.size w w' := by
  obtain ⟨a1, c1, rfl⟩ := hc.slice
  obtain ⟨a2, c2, rfl⟩ := he.slice
  have hb0 : Below w.heap.size w ((w.alloc (sobj s (.slice a1 s.cond.length c1) (.slice a2 s.expr.length c2))).alloc (.cells #[.string ⟨#[]⟩, .string ⟨#[]⟩] 68)) := ((Below.refl _ w).alloc (Nat.le_refl _) _).alloc (by simp) _
  have HX := hid (implClone s.name ((w.alloc (sobj s (.slice a1 s.cond.length c1) (.slice a2 s.expr.length c2))).alloc (.cells #[.string ⟨#[]⟩, .string ⟨#[]⟩] 68)) hl)
  have HB := hid hb0
  have q0 : ((ByteArray.mk #[110, 97, 109, 101]).toList == (ByteArray.mk #[110, 97, 109, 101]).toList) = true := lit_eq [110, 97, 109, 101]
  clear hc he ht hb0 hl
  unfold sagg aagg aName
  go_enter Tryz.func48, Tryz.ntmps48
  go_wp2_with fail
  refine HX.out.mono ?_
  rintro e w1 ⟨rfl, hb1⟩
  have B1 : Below w.heap.size w w1 := HB.out.trans (hb1.mono HB.out.size)
  have hz : ((w.alloc (sobj s (.slice a1 s.cond.length c1) (.slice a2 s.expr.length c2))).alloc (.cells #[.string ⟨#[]⟩, .string ⟨#[]⟩] 68)).heap.size = w.heap.size + 2 := by simp
  have u0 := kept_cell hb1 (b := w.heap.size + 1) (o := 0) (v := .string ⟨#[]⟩) (by omega) (by go_simp)
  have u1 := kept_cell hb1 (b := w.heap.size + 1) (o := 1) (v := .string ⟨#[]⟩) (by omega) (by go_simp)
  have x0 := kept_free hb1 (b := w.heap.size + 1) (o := 0) (by omega) (by go_simp)
  have x1 := kept_free hb1 (b := w.heap.size + 1) (o := 1) (by omega) (by go_simp)
  clear HX hb1 hz HB
  have l1 : w.heap.size ≤ w.heap.size + 1 := by omega
  go_wp2
  exact bodyPost_ret (v := .agg #[.string ⟨#[110, 97, 109, 101]⟩, .string (s.name)]) (by simp [results, Tryz.results48, go_sem, u0, u1]) rfl ⟨rfl, setB (setB B1 l1 _) l1 _⟩
set_option maxRecDepth 100000 in
set_option maxHeartbeats 2000000 in
theorem tellTo (B : Nat) (s : StepD) (vc ve : Value) (w : World) (hl : s.expr.length ≤ 1048576) (hc : Nd.At w B vc s.cond) (he : Nd.At w B ve s.expr) (ht : Ex.Tab w) :
    Calls Tryz.prog 48 #[sagg s vc ve, .string aTo] w fun e w' => e = .returned (aagg ⟨aTo, str (textOf s.expr)⟩) ∧ Below w.heap.size w w' := by
  obtain ⟨a1, c1, rfl⟩ := hc.slice
  obtain ⟨a2, c2, rfl⟩ := he.slice
  have hb0 : Below w.heap.size w ((w.alloc (sobj s (.slice a1 s.cond.length c1) (.slice a2 s.expr.length c2))).alloc (.cells #[.string ⟨#[]⟩, .string ⟨#[]⟩] 68)) := ((Below.refl _ w).alloc (Nat.le_refl _) _).alloc (by simp) _
  have HX := hid (implExprText B s.expr _ _ hl (he.below hb0) (ht.below hb0))
  have HB := hid hb0
  have q0 : ((ByteArray.mk #[116, 111]).toList == (ByteArray.mk #[110, 97, 109, 101]).toList) = false := lit_ne (by decide)
  have q1 : ((ByteArray.mk #[116, 111]).toList == (ByteArray.mk #[105, 102]).toList) = false := lit_ne (by decide)
  have q2 : ((ByteArray.mk #[116, 111]).toList == (ByteArray.mk #[116, 111]).toList) = true := lit_eq [116, 111]
  clear hc he ht hb0 hl
  unfold sagg aagg aTo
  go_enter Tryz.func48, Tryz.ntmps48
  go_wp2_with fail
  refine HX.out.mono ?_
  rintro e w1 ⟨rfl, hb1⟩
  have B1 : Below w.heap.size w w1 := HB.out.trans (hb1.mono HB.out.size)
  have hz : ((w.alloc (sobj s (.slice a1 s.cond.length c1) (.slice a2 s.expr.length c2))).alloc (.cells #[.string ⟨#[]⟩, .string ⟨#[]⟩] 68)).heap.size = w.heap.size + 2 := by simp
  have u0 := kept_cell hb1 (b := w.heap.size + 1) (o := 0) (v := .string ⟨#[]⟩) (by omega) (by go_simp)
  have u1 := kept_cell hb1 (b := w.heap.size + 1) (o := 1) (v := .string ⟨#[]⟩) (by omega) (by go_simp)
  have x0 := kept_free hb1 (b := w.heap.size + 1) (o := 0) (by omega) (by go_simp)
  have x1 := kept_free hb1 (b := w.heap.size + 1) (o := 1) (by omega) (by go_simp)
  clear HX hb1 hz HB
  have l1 : w.heap.size ≤ w.heap.size + 1 := by omega
  have f1 := fldT (eFault s.expr) (str (textOf s.expr))
  go_wp2
  exact bodyPost_ret (v := .agg #[.string ⟨#[116, 111]⟩, .string (str (textOf s.expr))]) (by simp [results, Tryz.results48, go_sem, u0, u1]) rfl ⟨rfl, setB (setB B1 l1 _) l1 _⟩
set_option maxRecDepth 100000 in
set_option maxHeartbeats 2000000 in
theorem tellMsg (B : Nat) (s : StepD) (vc ve : Value) (w : World) (h0 : 0 ≤ s.arg) (h1 : s.arg ≤ 99) (hc : Nd.At w B vc s.cond) (he : Nd.At w B ve s.expr) (ht : Ex.Tab w) :
    Calls Tryz.prog 48 #[sagg s vc ve, .string aMsg] w fun e w' => e = .returned (aagg ⟨aMsg, digs s⟩) ∧ Below w.heap.size w w' := by
  obtain ⟨a1, c1, rfl⟩ := hc.slice
  obtain ⟨a2, c2, rfl⟩ := he.slice
  have hb0 : Below w.heap.size w ((w.alloc (sobj s (.slice a1 s.cond.length c1) (.slice a2 s.expr.length c2))).alloc (.cells #[.string ⟨#[]⟩, .string ⟨#[]⟩] 68)) := ((Below.refl _ w).alloc (Nat.le_refl _) _).alloc (by simp) _
  have HX := hid (Ex.implInt s.arg ((w.alloc (sobj s (.slice a1 s.cond.length c1) (.slice a2 s.expr.length c2))).alloc (.cells #[.string ⟨#[]⟩, .string ⟨#[]⟩] 68)) h0 (by omega) (ht.below hb0))
  have HB := hid hb0
  have q0 : ((ByteArray.mk #[109, 115, 103]).toList == (ByteArray.mk #[110, 97, 109, 101]).toList) = false := lit_ne (by decide)
  have q1 : ((ByteArray.mk #[109, 115, 103]).toList == (ByteArray.mk #[105, 102]).toList) = false := lit_ne (by decide)
  have q2 : ((ByteArray.mk #[109, 115, 103]).toList == (ByteArray.mk #[116, 111]).toList) = false := lit_ne (by decide)
  clear hc he ht hb0 h0 h1
  unfold sagg aagg aMsg
  go_enter Tryz.func48, Tryz.ntmps48
  go_wp2_with fail
  refine HX.out.mono ?_
  rintro e w1 ⟨rfl, hb1⟩
  have B1 : Below w.heap.size w w1 := HB.out.trans (hb1.mono HB.out.size)
  have hz : ((w.alloc (sobj s (.slice a1 s.cond.length c1) (.slice a2 s.expr.length c2))).alloc (.cells #[.string ⟨#[]⟩, .string ⟨#[]⟩] 68)).heap.size = w.heap.size + 2 := by simp
  have u0 := kept_cell hb1 (b := w.heap.size + 1) (o := 0) (v := .string ⟨#[]⟩) (by omega) (by go_simp)
  have u1 := kept_cell hb1 (b := w.heap.size + 1) (o := 1) (v := .string ⟨#[]⟩) (by omega) (by go_simp)
  have x0 := kept_free hb1 (b := w.heap.size + 1) (o := 0) (by omega) (by go_simp)
  have x1 := kept_free hb1 (b := w.heap.size + 1) (o := 1) (by omega) (by go_simp)
  clear HX hb1 hz HB
  have l1 : w.heap.size ≤ w.heap.size + 1 := by omega
  go_wp2
  exact bodyPost_ret (v := .agg #[.string ⟨#[109, 115, 103]⟩, .string (digs s)]) (by simp [results, Tryz.results48, go_sem, u0, u1, digs, str]) rfl ⟨rfl, setB (setB B1 l1 _) l1 _⟩
set_option maxRecDepth 100000 in
set_option maxHeartbeats 2000000 in
theorem tellTicks (B : Nat) (s : StepD) (vc ve : Value) (w : World) (h0 : 0 ≤ s.arg) (h1 : s.arg ≤ 99) (hc : Nd.At w B vc s.cond) (he : Nd.At w B ve s.expr) (ht : Ex.Tab w) :
    Calls Tryz.prog 48 #[sagg s vc ve, .string aTicks] w fun e w' => e = .returned (aagg ⟨aTicks, digs s⟩) ∧ Below w.heap.size w w' := by
  obtain ⟨a1, c1, rfl⟩ := hc.slice
  obtain ⟨a2, c2, rfl⟩ := he.slice
  have hb0 : Below w.heap.size w ((w.alloc (sobj s (.slice a1 s.cond.length c1) (.slice a2 s.expr.length c2))).alloc (.cells #[.string ⟨#[]⟩, .string ⟨#[]⟩] 68)) := ((Below.refl _ w).alloc (Nat.le_refl _) _).alloc (by simp) _
  have HX := hid (Ex.implInt s.arg ((w.alloc (sobj s (.slice a1 s.cond.length c1) (.slice a2 s.expr.length c2))).alloc (.cells #[.string ⟨#[]⟩, .string ⟨#[]⟩] 68)) h0 (by omega) (ht.below hb0))
  have HB := hid hb0
  have q0 : ((ByteArray.mk #[116, 105, 99, 107, 115]).toList == (ByteArray.mk #[110, 97, 109, 101]).toList) = false := lit_ne (by decide)
  have q1 : ((ByteArray.mk #[116, 105, 99, 107, 115]).toList == (ByteArray.mk #[105, 102]).toList) = false := lit_ne (by decide)
  have q2 : ((ByteArray.mk #[116, 105, 99, 107, 115]).toList == (ByteArray.mk #[116, 111]).toList) = false := lit_ne (by decide)
  clear hc he ht hb0 h0 h1
  unfold sagg aagg aTicks
  go_enter Tryz.func48, Tryz.ntmps48
  go_wp2_with fail
  refine HX.out.mono ?_
  rintro e w1 ⟨rfl, hb1⟩
  have B1 : Below w.heap.size w w1 := HB.out.trans (hb1.mono HB.out.size)
  have hz : ((w.alloc (sobj s (.slice a1 s.cond.length c1) (.slice a2 s.expr.length c2))).alloc (.cells #[.string ⟨#[]⟩, .string ⟨#[]⟩] 68)).heap.size = w.heap.size + 2 := by simp
  have u0 := kept_cell hb1 (b := w.heap.size + 1) (o := 0) (v := .string ⟨#[]⟩) (by omega) (by go_simp)
  have u1 := kept_cell hb1 (b := w.heap.size + 1) (o := 1) (v := .string ⟨#[]⟩) (by omega) (by go_simp)
  have x0 := kept_free hb1 (b := w.heap.size + 1) (o := 0) (by omega) (by go_simp)
  have x1 := kept_free hb1 (b := w.heap.size + 1) (o := 1) (by omega) (by go_simp)
  clear HX hb1 hz HB
  have l1 : w.heap.size ≤ w.heap.size + 1 := by omega
  go_wp2
  exact bodyPost_ret (v := .agg #[.string ⟨#[116, 105, 99, 107, 115]⟩, .string (digs s)]) (by simp [results, Tryz.results48, go_sem, u0, u1, digs, str]) rfl ⟨rfl, setB (setB B1 l1 _) l1 _⟩
set_option maxRecDepth 100000 in
set_option maxHeartbeats 2000000 in
theorem tellVar (B : Nat) (s : StepD) (vc ve : Value) (w : World) (h0 : 0 ≤ s.arg) (h1 : s.arg ≤ 99) (hc : Nd.At w B vc s.cond) (he : Nd.At w B ve s.expr) (ht : Ex.Tab w) :
    Calls Tryz.prog 48 #[sagg s vc ve, .string aVar] w fun e w' => e = .returned (aagg ⟨aVar, digs s⟩) ∧ Below w.heap.size w w' := by
  obtain ⟨a1, c1, rfl⟩ := hc.slice
  obtain ⟨a2, c2, rfl⟩ := he.slice
  have hb0 : Below w.heap.size w ((w.alloc (sobj s (.slice a1 s.cond.length c1) (.slice a2 s.expr.length c2))).alloc (.cells #[.string ⟨#[]⟩, .string ⟨#[]⟩] 68)) := ((Below.refl _ w).alloc (Nat.le_refl _) _).alloc (by simp) _
  have HX := hid (Ex.implInt s.arg ((w.alloc (sobj s (.slice a1 s.cond.length c1) (.slice a2 s.expr.length c2))).alloc (.cells #[.string ⟨#[]⟩, .string ⟨#[]⟩] 68)) h0 (by omega) (ht.below hb0))
  have HB := hid hb0
  have q0 : ((ByteArray.mk #[118, 97, 114]).toList == (ByteArray.mk #[110, 97, 109, 101]).toList) = false := lit_ne (by decide)
  have q1 : ((ByteArray.mk #[118, 97, 114]).toList == (ByteArray.mk #[105, 102]).toList) = false := lit_ne (by decide)
  have q2 : ((ByteArray.mk #[118, 97, 114]).toList == (ByteArray.mk #[116, 111]).toList) = false := lit_ne (by decide)
  clear hc he ht hb0 h0 h1
  unfold sagg aagg aVar
  go_enter Tryz.func48, Tryz.ntmps48
  go_wp2_with fail
  refine HX.out.mono ?_
  rintro e w1 ⟨rfl, hb1⟩
  have B1 : Below w.heap.size w w1 := HB.out.trans (hb1.mono HB.out.size)
  have hz : ((w.alloc (sobj s (.slice a1 s.cond.length c1) (.slice a2 s.expr.length c2))).alloc (.cells #[.string ⟨#[]⟩, .string ⟨#[]⟩] 68)).heap.size = w.heap.size + 2 := by simp
  have u0 := kept_cell hb1 (b := w.heap.size + 1) (o := 0) (v := .string ⟨#[]⟩) (by omega) (by go_simp)
  have u1 := kept_cell hb1 (b := w.heap.size + 1) (o := 1) (v := .string ⟨#[]⟩) (by omega) (by go_simp)
  have x0 := kept_free hb1 (b := w.heap.size + 1) (o := 0) (by omega) (by go_simp)
  have x1 := kept_free hb1 (b := w.heap.size + 1) (o := 1) (by omega) (by go_simp)
  clear HX hb1 hz HB
  have l1 : w.heap.size ≤ w.heap.size + 1 := by omega
  go_wp2
  exact bodyPost_ret (v := .agg #[.string ⟨#[118, 97, 114]⟩, .string (digs s)]) (by simp [results, Tryz.results48, go_sem, u0, u1, digs, str]) rfl ⟨rfl, setB (setB B1 l1 _) l1 _⟩
theorem names_at (s : StepD) {j : Nat} (h : j < (namesL s).length) : ∃ h2 : j < (kindA s).length, (namesL s)[j] = (kindA s)[j].name := by
  have h2 : j < (kindA s).length := by unfold namesL at h; rwa [List.length_map] at h
  exact ⟨h2, by simp only [namesL, List.getElem_map]⟩
theorem tellKind (B : Nat) (s : StepD) (vc ve : Value) (w : World) (hF : Fine s) (hn : s.name.size ≤ 1048576) (hl : s.expr.length ≤ 1048576) (hc : Nd.At w B vc s.cond) (he : Nd.At w B ve s.expr) (ht : Ex.Tab w) (j : Nat) (hj : j < (kindA s).length) :
    Calls Tryz.prog 48 #[sagg s vc ve, .string (kindA s)[j].name] w fun e w' => e = .returned (aagg (kindA s)[j]) ∧ Below w.heap.size w w' := by
  rcases kinds hF.kind with k | k | k | k | k | k | k | k
  · simp [kind0 (s := s) (by omega)] at hj
  · have e := kind2 k
    simp only [e] at hj ⊢
    obtain rfl : j = 0 := by simpa using hj
    exact tellName B s vc ve w hn hc he ht
  · simp [kind0 (s := s) (by omega)] at hj
  · simp [kind0 (s := s) (by omega)] at hj
  · have e := kind5 k
    simp only [e] at hj ⊢
    obtain rfl : j = 0 := by simpa using hj
    exact tellMsg B s vc ve w hF.arg.1 hF.arg.2 hc he ht
  · have e := kind6 (s := s) (by omega)
    simp only [e] at hj ⊢
    obtain rfl : j = 0 := by simpa using hj
    exact tellTicks B s vc ve w hF.arg.1 hF.arg.2 hc he ht
  · have e := kind7 k
    simp only [e] at hj ⊢
    match j, hj with
    | 0, _ => exact tellVar B s vc ve w hF.arg.1 hF.arg.2 hc he ht
    | 1, _ => exact tellTo B s vc ve w hl hc he ht
  · have e := kind6 (s := s) (by omega)
    simp only [e] at hj ⊢
    obtain rfl : j = 0 := by simpa using hj
    exact tellTicks B s vc ve w hF.arg.1 hF.arg.2 hc he ht
end Tf
end Go.Proofs.YtgghigfflpbjiaaGreatDoor
/- The program's element of a step. -/
namespace Go.Proofs.YtgghigfflpbjiaaGreatDoor
open Go.RowKit
set_option linter.unusedVariables false
namespace Tf
open Ex (hid inR eFault str str_size textOf implExprText)
open Nd (NodeD)
open St (StepD)
open Tr (AttrD ElemD AttrsAt ElemsAt fault)
open Pf
open Nst (own)
open Go.Lib (decDigits)
theorem word_eq {k : Int} (h : inR k 1 8 = true) : (ruleD k).word = str (wordL k) := by
  rcases kinds h with rfl | rfl | rfl | rfl | rfl | rfl | rfl | rfl
  all_goals rfl
theorem own_attr_snoc {w : World} {B : Nat} {v : Value} {l : List AttrD} {a : AttrD} (h : w.ownsRow B 68 2 v (l.length + 1) (avals l ++ aval a)) : w.ownsRow B 68 2 v (l ++ [a]).length (avals (l ++ [a])) := by
  rw [List.length_append, avals_snoc]
  exact h
theorem take_succ_kind {s : StepD} {j : Nat} (h : j < (kindA s).length) : condA s ++ (kindA s).take (j + 1) = (condA s ++ (kindA s).take j) ++ [(kindA s)[j]] := by
  rw [List.append_assoc]
  congr 1
  exact (List.take_append_getElem h).symm
theorem cond_take_len {s : StepD} {j : Nat} (h : j ≤ (kindA s).length) : (condA s ++ (kindA s).take j).length ≤ 3 := by
  have := attrs_len s
  unfold attrsOf at this
  rw [List.length_append] at this ⊢
  rw [List.length_take]
  omega
theorem own_set3 {w : World} {B b n : Nat} {e : TypeId} {sz : Nat} {v x y z : Value} {xs : List Value} (h : w.ownsRow B e sz v n xs) (hb : b < B) : (((w.setCell ⟨b, 0, none⟩ x).setCell ⟨b, 1, none⟩ y).setCell ⟨b, 2, none⟩ z).ownsRow B e sz v n xs :=
  ownsRow_setCell_below (ownsRow_setCell_below (ownsRow_setCell_below h (a := ⟨b, 0, none⟩) hb _) (a := ⟨b, 1, none⟩) hb _) (a := ⟨b, 2, none⟩) hb _
set_option maxRecDepth 100000 in
set_option maxHeartbeats 8000000 in
theorem implElem (B : Nat) (s : StepD) (vc ve : Value) (w : World) (hF : Fine s) (hs : St.Small1 1048576 s) (hc : Nd.At w B vc s.cond) (he : Nd.At w B ve s.expr) (ht : Ex.Tab w) (hr : Rul w) :
    Calls Tryz.prog 23 #[sagg s vc ve] w fun e w' => (∃ va, e = .returned (.agg #[.string (str (wordL s.kind)), .int .i64 s.parent, va]) ∧ w'.ownsRow w.heap.size 68 2 va (attrsOf s).length (avals (attrsOf s))) ∧ Below w.heap.size w w' := by
  obtain ⟨a1, c1, rfl⟩ := hc.slice
  obtain ⟨a2, c2, rfl⟩ := he.slice
  obtain ⟨hs1, hs2, hs3⟩ := hs
  have hgl := hr.lt
  have HB0 : Hid (Below w.heap.size w ((w.alloc (sobj s (.slice a1 s.cond.length c1) (.slice a2 s.expr.length c2))).alloc (.cells #[.string ⟨#[]⟩, .int .i64 0, .slice none 0 0] 53))) := hid (((Below.refl _ w).alloc (Nat.le_refl _) _).alloc (by simp) _)
  have HRU := hid (ruleOk s.kind _ hF.kind (hr.below HB0.out hgl))
  have HW' := hid (word_eq hF.kind)
  have HC := hid hc
  have HE := hid he
  have HT := hid ht
  have HF := hid hF
  obtain ⟨j0, hj, hy0, hy1, hy2⟩ := info_parts infoAttr
  clear hc he ht hr hF
  have HRR : Hid ((ruleD s.kind).row = #[.string (ruleD s.kind).word, .bool (ruleD s.kind).hn, .bool (ruleD s.kind).he, .int .i64 (ruleD s.kind).la, .int .i64 (ruleD s.kind).ma, .int .i64 (ruleD s.kind).lk, .int .i64 (ruleD s.kind).mx]) := hid rfl
  rw [HRR.out] at HRU
  generalize ruleD s.kind = rd at *
  unfold sagg
  go_enter Tryz.func23, Tryz.ntmps23
  go_wp2_with fail
  refine HRU.out.mono ?_
  rintro e w1 ⟨rfl, hb1⟩
  have hz : ((w.alloc (sobj s (.slice a1 s.cond.length c1) (.slice a2 s.expr.length c2))).alloc (.cells #[.string ⟨#[]⟩, .int .i64 0, .slice none 0 0] 53)).heap.size = w.heap.size + 2 := by simp
  have l1 : w.heap.size + 2 ≤ w1.heap.size := by have := hb1.size; omega
  have k0 := kept_cell hb1 (b := w.heap.size) (o := 0) (v := .int .i64 s.kind) (by omega) (by go_simp)
  have k1 := kept_cell hb1 (b := w.heap.size) (o := 1) (v := .int .i64 s.parent) (by omega) (by go_simp)
  have k2 := kept_cell hb1 (b := w.heap.size) (o := 2) (v := .string s.name) (by omega) (by go_simp)
  have k3 := kept_cell hb1 (b := w.heap.size) (o := 3) (v := .int .i64 s.arg) (by omega) (by go_simp)
  have k4 := kept_cell hb1 (b := w.heap.size) (o := 4) (v := .slice a1 s.cond.length c1) (by omega) (by go_simp)
  have k5 := kept_cell hb1 (b := w.heap.size) (o := 5) (v := .slice a2 s.expr.length c2) (by omega) (by go_simp)
  have u0 := kept_cell hb1 (b := w.heap.size + 1) (o := 0) (v := .string ⟨#[]⟩) (by omega) (by go_simp)
  have u1 := kept_cell hb1 (b := w.heap.size + 1) (o := 1) (v := .int .i64 0) (by omega) (by go_simp)
  have u2 := kept_cell hb1 (b := w.heap.size + 1) (o := 2) (v := .slice none 0 0) (by omega) (by go_simp)
  have x0 := kept_free hb1 (b := w.heap.size + 1) (o := 0) (by omega) (by go_simp)
  have x1 := kept_free hb1 (b := w.heap.size + 1) (o := 1) (by omega) (by go_simp)
  have x2 := kept_free hb1 (b := w.heap.size + 1) (o := 2) (by omega) (by go_simp)
  have HB1 : Hid (Below w.heap.size w w1) := hid (HB0.out.trans (hb1.mono HB0.out.size))
  clear hb1 hz HRU HB0
  have hx2 : Below w1.heap.size w1 (w1.alloc (.cells #[.string rd.word, .bool rd.hn, .bool rd.he, .int .i64 rd.la, .int .i64 rd.ma, .int .i64 rd.lk, .int .i64 rd.mx] 82)) := (Below.refl _ w1).alloc (Nat.le_refl _) _
  have m0 := kept_cell hx2 (by omega) k0
  have m1 := kept_cell hx2 (by omega) k1
  have m2 := kept_cell hx2 (by omega) k2
  have m3 := kept_cell hx2 (by omega) k3
  have m4 := kept_cell hx2 (by omega) k4
  have m5 := kept_cell hx2 (by omega) k5
  have v0 := kept_cell hx2 (by omega) u0
  have v1 := kept_cell hx2 (by omega) u1
  have v2 := kept_cell hx2 (by omega) u2
  have y0 := kept_free hx2 (by omega) x0
  have y1 := kept_free hx2 (by omega) x1
  have y2 := kept_free hx2 (by omega) x2
  have rw0 : (w1.alloc (.cells #[.string rd.word, .bool rd.hn, .bool rd.he, .int .i64 rd.la, .int .i64 rd.ma, .int .i64 rd.lk, .int .i64 rd.mx] 82)).cell? ⟨w1.heap.size, 0, none⟩ = some (.string rd.word) := by go_simp
  have hz2 : (w1.alloc (.cells #[.string rd.word, .bool rd.hn, .bool rd.he, .int .i64 rd.la, .int .i64 rd.ma, .int .i64 rd.lk, .int .i64 rd.mx] 82)).heap.size = w1.heap.size + 1 := by simp
  have HB2 : Hid (Below w.heap.size w (w1.alloc (.cells #[.string rd.word, .bool rd.hn, .bool rd.he, .int .i64 rd.la, .int .i64 rd.ma, .int .i64 rd.lk, .int .i64 rd.mx] 82))) := hid (HB1.out.alloc HB1.out.size _)
  have HZ2 := hid hz2
  clear k0 k1 k2 k3 k4 k5 u0 u1 u2 x0 x1 x2 hx2 HB1 hz2
  go_upto_if 17 with fail
  generalize w1.alloc (.cells #[.string rd.word, .bool rd.hn, .bool rd.he, .int .i64 rd.la, .int .i64 rd.ma, .int .i64 rd.lk, .int .i64 rd.mx] 82) = w2 at *
  have lw : w.heap.size < w2.heap.size := by have := HZ2.out; omega
  have lw1 : w.heap.size + 1 < w2.heap.size := by have := HZ2.out; omega
  have lw2 : w1.heap.size < w2.heap.size := by have := HZ2.out; omega
  clear l1
  go_cut [5] from 17 to 22 (fun r wx => Hid (wx.ownsRow w2.heap.size 68 2 r (condA s).length (avals (condA s))) ∧ Hid (Below w2.heap.size w2 wx))
  case first =>
    by_cases hq : s.cond.length = 0
    · have HCO : Hid (condA s = []) := hid (by unfold condA; rw [if_pos hq])
      have q1 : ¬ (0 : Int) < (s.cond.length : Int) := by omega
      clear hq
      go_wp2_with fail
      go_meet
      exact ⟨hid (by rw [HCO.out]; exact World.ownsRow_nil _ _ _ _), hid (Below.refl _ _)⟩
    · have HCO : Hid (condA s = [⟨aIf, str (textOf s.cond)⟩]) := hid (by unfold condA; rw [if_neg hq])
      have q1 : (0 : Int) < (s.cond.length : Int) := by omega
      have HTI := hid (tellIf B s _ _ w2 (by omega) (HC.out.below HB2.out) (HE.out.below HB2.out) (HT.out.below HB2.out))
      unfold sagg aagg aIf at HTI
      clear hq
      go_wp2_with fail
      refine HTI.out.mono ?_
      rintro e w3 ⟨rfl, hb3⟩
      have HB3 := hid hb3
      have HOW : Hid (w3.ownsRow w2.heap.size 68 2 (.slice none 0 0) 0 []) := hid (World.ownsRow_nil _ _ _ _)
      have l3 := hb3.size
      clear hb3 HTI
      go_wp2_with (at_builtin; go_must (refine wpList_append_own _ rfl _ _ 51 rfl w2.heap.size 68 j0 (.agg #[.string ⟨#[]⟩, .string ⟨#[]⟩]) 2 32 Tryz.underlying51 hj hy0 hy1 hy2 rfl (by decide) _ _ _ rfl (HOW.out.alloc _) ⟨w3.heap.size, 0, none⟩ 1 1 [.string ⟨#[105, 102]⟩, .string (str (textOf s.cond))] rfl rfl (news #[.string ⟨#[105, 102]⟩, .string (str (textOf s.cond))] _ _ rfl) (by simp [Value.oneCell']) (by unfold maxLen; omega) (by omega) (by simp; omega) ?_); intro v4 w4 hown4 hg4 _)
      have HOW4 : Hid (w4.ownsRow w2.heap.size 68 2 v4 1 [.string ⟨#[105, 102]⟩, .string (str (textOf s.cond))]) := hid hown4
      have HB4 : Hid (Below w2.heap.size w2 w4) := hid ((HB3.out.alloc l3 _).grown hg4 (by simp; omega) (fun b e => by cases e))
      obtain ⟨a5, c5, rfl⟩ := Nst.own_slice hown4
      clear hown4 hg4
      go_wp2_with fail
      go_meet
      exact ⟨hid (by rw [HCO.out]; exact HOW4.out), HB4⟩
  case rest =>
    obtain ⟨HO5, HB5⟩ := hcut
    obtain ⟨a5, c5, rfl⟩ := Nst.own_slice HO5.out
    have n0 := kept_cell HB5.out lw m0
    have n1 := kept_cell HB5.out lw m1
    have n2 := kept_cell HB5.out lw m2
    have n3 := kept_cell HB5.out lw m3
    have n4 := kept_cell HB5.out lw m4
    have n5 := kept_cell HB5.out lw m5
    have l5 := HB5.out.size
    have HNM := hid (implNames s wc HF.out.kind)
    clear n1 n2 n3 n4 n5
    go_wp2_with fail
    refine HNM.out.mono ?_
    rintro e w6 ⟨v6, rfl, hss, hb6⟩
    obtain ⟨a6, c6, rfl⟩ := hss.slice
    have HSS := hid hss
    have HB6 := hid (HB5.out.trans (hb6.mono HB5.out.size))
    have HO6 : Hid (w6.ownsRow w2.heap.size 68 2 (.slice a5 (condA s).length c5) (condA s ++ (kindA s).take 0).length (avals (condA s ++ (kindA s).take 0))) := hid (by
      rw [List.take_zero, List.append_nil]
      exact Nst.own_kept HO5.out (fun b hb => hb6.block b (Nst.own_lt HO5.out hb).2))
    have HW6 : Hid (∀ b, own (.slice a5 (condA s).length c5) b → b < wc.heap.size ∨ w6.heap.size ≤ b) := hid (fun b hb => .inl (Nst.own_lt HO5.out hb).2)
    have l6 := hb6.size
    have hcl : (condA s).length = (condA s ++ (kindA s).take 0).length := by rw [List.take_zero, List.append_nil]
    have hnl : (namesL s).length = (kindA s).length := by unfold namesL; rw [List.length_map]
    have HNL := hid hnl
    have HCL := hid hcl
    have hkl : (kindA s).length ≤ 3 := by have := attrs_len s; unfold attrsOf at this; rw [List.length_append] at this; omega
    clear hss hb6 HNM HO5 HB5 n0 hnl hcl
    go_wp2_with fail
    go_loopw [5, 7, 27] (fun av nm i wr => ∃ (j : Nat), i = .int .i64 j ∧ j ≤ (namesL s).length ∧ (∃ a7 n7 c7, av = .slice a7 n7 c7) ∧ (∃ un, nm = un) ∧ Hid (wr.ownsRow w2.heap.size 68 2 av (condA s ++ (kindA s).take j).length (avals (condA s ++ (kindA s).take j))) ∧ Hid (∀ b, own av b → b < wc.heap.size ∨ w6.heap.size ≤ b) ∧ Hid (SsAt wr wc.heap.size w6.heap.size (.slice a6 (namesL s).length c6) (namesL s)) ∧ Hid (Below w2.heap.size w2 wr) ∧ w6.heap.size ≤ wr.heap.size) (fun _ _ i _ => (namesL s).length - (intOf i).toNat)
    case atStart => exact ⟨0, rfl, Nat.zero_le _, ⟨_, _, _, rfl⟩, ⟨_, rfl⟩, HO6, HW6, HSS, HB6, Nat.le_refl _⟩
    case round =>
      obtain ⟨j, rfl, hjl, ⟨a7, n7, c7, rfl⟩, ⟨un, rfl⟩, HO, HW, HS, HB, l7⟩ := hrel
      have z0 := kept_cell HB.out lw m0
      have z1 := kept_cell HB.out lw m1
      have z2 := kept_cell HB.out lw m2
      have z3 := kept_cell HB.out lw m3
      have z4 := kept_cell HB.out lw m4
      have z5 := kept_cell HB.out lw m5
      by_cases hlt : j < (namesL s).length
      · have q1 : (j : Int) < ((namesL s).length : Int) := by omega
        obtain ⟨hjk, hne⟩ := names_at s hlt
        obtain ⟨g6, o6, rfl, hg6a, hg6b, hcn⟩ := HS.out.at hlt
        rw [hne] at hcn
        have HBW := hid (HB2.out.trans (HB.out.mono HB2.out.size))
        have HTK := hid (tellKind B s _ _ wr HF.out (by omega) (by omega) (HC.out.below HBW.out) (HE.out.below HBW.out) (HT.out.below HBW.out) j hjk)
        unfold sagg aagg at HTK
        have HTA := hid (take_succ_kind hjk)
        have hct := cond_take_len (s := s) (j := j) (by omega)
        generalize (kindA s)[j] = ak at *
        have hg6l : g6 < wr.heap.size := by omega
        clear hne
        go_wp2_with fail
        refine HTK.out.mono ?_
        rintro e w8 ⟨rfl, hb8⟩
        have HO8 := hid (Nst.own_kept HO.out (fun b hb => hb8.block b (Nst.own_lt HO.out hb).2))
        have HB8 := hid (HB.out.trans (hb8.mono HB.out.size))
        have HS8 := hid (HS.out.keep (fun g h1 h2 => hb8.block g (by omega)))
        have l8 := hb8.size
        have l82 := HB.out.size
        have hn7 : n7 = (condA s ++ (kindA s).take j).length := by
          obtain ⟨a', c', e'⟩ := Nst.own_slice HO.out
          cases e'; rfl
        subst hn7
        clear hb8 HTK HO HB HS
        generalize hL : condA s ++ (kindA s).take j = L at *
        go_wp2_with (at_builtin; go_must (refine wpList_append_own_at _ rfl _ _ 51 rfl w2.heap.size 68 j0 (.agg #[.string ⟨#[]⟩, .string ⟨#[]⟩]) 2 32 Tryz.underlying51 hj hy0 hy1 hy2 rfl (by decide) _ _ _ rfl (HO8.out.alloc _) ⟨w8.heap.size, 0, none⟩ 1 1 [.string ak.name, .string ak.value] rfl rfl (news #[.string ak.name, .string ak.value] _ _ rfl) (by simp [Value.oneCell']) (by unfold maxLen; omega) (by omega) (by simp; omega) ?_); intro v9 w9 hown9 hg9 _ hat9; obtain ⟨a9, c9, rfl⟩ := Nst.own_slice hown9)
        have hnew : Below w8.heap.size w8 (w8.alloc (.cells #[.string ak.name, .string ak.value] 68)) := (Below.refl _ w8).alloc (Nat.le_refl _) _
        have HB9 : Hid (Below w2.heap.size w2 w9) := hid ((HB8.out.alloc (by omega) _).grown hg9 (by simp; omega) (fun b e => (Nst.own_lt HO8.out e).1))
        have HS9 : Hid (SsAt w9 wc.heap.size w6.heap.size (.slice (some ⟨g6, o6, none⟩) (namesL s).length c6) (namesL s)) := hid (HS8.out.keep (fun g h1 h2 => by
          rw [hg9.block g (by simp; omega) (fun e => by
            rcases HW.out g e.symm with h | h <;> omega)]
          exact hnew.block g (by omega)))
        have HW9 : Hid (∀ b, own (.slice a9 (L.length + 1) c9) b → b < wc.heap.size ∨ w6.heap.size ≤ b) := hid (fun b hb => by
          rcases hat9 with e | e
          · exact HW.out b (e.symm.trans hb)
          · unfold own at hb
            rw [e] at hb
            have := Option.some.inj hb
            simp at this
            omega)
        have HO9 : Hid (w9.ownsRow w2.heap.size 68 2 (.slice a9 (L.length + 1) c9) (L ++ [ak]).length (avals (L ++ [ak]))) := hid (own_attr_snoc hown9)
        have l9 : w6.heap.size ≤ w9.heap.size := by have := hg9.size; simp at this; omega
        clear hown9 hg9 hat9 hnew
        go_wp2
        exact ⟨⟨j + 1, by simp, by omega, ⟨_, _, _, rfl⟩, ⟨_, rfl⟩, hid (by rw [HTA.out]; exact HO9.out), HW9, HS9, HB9, l9⟩, by simp [intOf]; omega⟩
      · have q1 : ¬ (j : Int) < ((namesL s).length : Int) := by omega
        have hjn : j = (kindA s).length := by have := HNL.out; omega
        have HAO : Hid (wr.ownsRow w2.heap.size 68 2 (.slice a7 n7 c7) (attrsOf s).length (avals (attrsOf s))) := hid (by
          have := HO.out
          rw [hjn, List.take_length] at this
          exact this)
        have b0 := kept_cell HB.out lw1 v0
        have b1 := kept_cell HB.out lw1 v1
        have b2 := kept_cell HB.out lw1 v2
        have d0 := kept_free HB.out lw1 y0
        have d1 := kept_free HB.out lw1 y1
        have d2 := kept_free HB.out lw1 y2
        have r0 := kept_cell HB.out lw2 rw0
        have HBW := hid (HB2.out.trans (HB.out.mono HB2.out.size))
        have l1 : w.heap.size ≤ w.heap.size + 1 := by omega
        have HWD := HW'.out
        rw [HWD] at r0
        clear HO HW HS HB hjn
        go_wp2
        refine bodyPost_ret (v := .agg #[.string (str (wordL s.kind)), .int .i64 s.parent, .slice a7 n7 c7]) (by simp [results, Tryz.results23, go_sem, b0, b1, b2]) rfl ⟨⟨_, rfl, ?_⟩, setB (setB (setB HBW.out l1 _) l1 _) l1 _⟩
        have l2 := HB2.out.size
        exact Nst.own_mono (own_set3 HAO.out lw1) l2
end Tf
end Go.Proofs.YtgghigfflpbjiaaGreatDoor
/- The program's TreeOf. -/
namespace Go.Proofs.YtgghigfflpbjiaaGreatDoor
open Go.RowKit
set_option linter.unusedVariables false
namespace Tf
open Ex (hid inR eFault str str_size textOf)
open Nd (NodeD)
open St (StepD)
open Tr (AttrD ElemD AttrsAt ElemsAt fault SmallE SmallA OkE OkA)
open Pf
open Nst (own)
theorem tree_small {ss : List StepD} (h : pFault ss = 0) : ∀ e ∈ treeL ss, (e.tag.size : Int) ≤ 64 ∧ (e.attrs.length : Int) ≤ 64 ∧ ∀ a ∈ e.attrs, (a.name.size : Int) ≤ 64 ∧ (a.value.size : Int) ≤ 64 := by
  intro e he
  unfold treeL at he
  obtain ⟨s, hs, rfl⟩ := List.mem_map.1 he
  obtain ⟨i, hi, rfl⟩ := List.getElem_of_mem hs
  have hF := fine hi h
  have hv := val_size hF (name_nf hi h)
  have ht := attrs_len ss[i]
  have hw := word_len ss[i].kind
  refine ⟨?_, ?_, fun a ha => ?_⟩
  · show ((str (wordL ss[i].kind)).size : Int) ≤ 64
    rw [str_size]; omega
  · show ((attrsOf ss[i]).length : Int) ≤ 64
    omega
  · have := hv a ha
    omega
theorem tree_len (ss : List StepD) : (treeL ss).length = ss.length := by unfold treeL; rw [List.length_map]
theorem tree_smallE {ss : List StepD} (h : pFault ss = 0) : SmallE 1048576 (treeL ss) := by
  refine ⟨?_, fun e he => ?_⟩
  · have := (of_p h).1
    rw [tree_len]; omega
  · obtain ⟨h1, h2, h3⟩ := tree_small h e he
    exact ⟨by omega, by omega, fun a ha => by have := h3 a ha; omega⟩
theorem tree_okE {ss : List StepD} (h : pFault ss = 0) : OkE (treeL ss) := by
  intro e he
  obtain ⟨h1, h2, h3⟩ := tree_small h e he
  have hm : (64 : Nat) ≤ maxLen := by decide
  exact ⟨by omega, fun a ha => by have := h3 a ha; omega, by omega⟩
theorem take_succ_tree {ss : List StepD} {j : Nat} (h : j < ss.length) : treeL (ss.take (j + 1)) = treeL (ss.take j) ++ [elemD ss[j]] := by
  unfold treeL
  rw [← List.take_append_getElem h, List.map_append]
  rfl
theorem take_tree_len {ss : List StepD} {j : Nat} (h : j ≤ ss.length) : (treeL (ss.take j)).length = j := by
  rw [tree_len, List.length_take]; omega
theorem ret3 {c d : Int} {v : Value} (h : c = d) : Ending.returned (.agg #[.int .i64 c, .int .i64 0, v]) = .returned (.agg #[.int .i64 d, .int .i64 0, v]) := by rw [h]
theorem heap_set3 {w : World} {b g : Nat} {x y z : Value} (h : g ≠ b) : (((w.setCell ⟨b, 0, none⟩ x).setCell ⟨b, 1, none⟩ y).setCell ⟨b, 2, none⟩ z).heap[g]? = w.heap[g]? := by
  rw [Below.heap_setCell _ _ _ _ (by dsimp only; omega), Below.heap_setCell _ _ _ _ (by dsimp only; omega), Below.heap_setCell _ _ _ _ (by dsimp only; omega)]
set_option maxRecDepth 100000 in
set_option maxHeartbeats 8000000 in
theorem implTreeOf (ss : List StepD) (v : Value) (w : World) (hsm : St.Small 1048576 ss) (ha : St.At w 0 v ss) (hr : Rul w) (ht : Ex.Tab w) (he : Esc.Ent w) (hw : 2 < w.heap.size) :
    Calls Tryz.prog 8 #[v] w fun e w' => (∃ u, e = .returned (.agg #[.int .i64 (treeC ss), .int .i64 0, u]) ∧ EOwn w' (w.heap.size + 1) u (treeE ss)) ∧ Below w.heap.size w w' := by
  obtain ⟨a, cap, rfl⟩ := ha.slice
  have hgl := hr.lt
  have HB0 : Hid (Below w.heap.size w (w.alloc (.cells #[.int .i64 0, .int .i64 0, .slice none 0 0] 26))) := hid ((Below.refl _ w).alloc (Nat.le_refl _) _)
  have HF := hid (implProcFault ss _ _ hsm (ha.below HB0.out) (hr.below HB0.out hgl))
  have HA := hid ha
  have HR := hid hr
  have HT := hid ht
  have HE := hid he
  have HS := hid hsm
  have hl := hsm.1
  obtain ⟨j0, hj, hy0, hy1, hy2⟩ := info_parts infoElem
  clear ha hr ht he hsm
  go_enter Tryz.func8, Tryz.ntmps8
  go_wp2_with fail
  refine HF.out.mono ?_
  rintro e w1 ⟨rfl, hb1⟩
  have B1 : Below w.heap.size w w1 := HB0.out.trans (hb1.mono HB0.out.size)
  have hz : (w.alloc (.cells #[.int .i64 0, .int .i64 0, .slice none 0 0] 26)).heap.size = w.heap.size + 1 := by simp
  have l1 : w.heap.size + 1 ≤ w1.heap.size := by have := hb1.size; omega
  have u0 := kept_cell hb1 (b := w.heap.size) (o := 0) (v := .int .i64 0) (by omega) (by go_simp)
  have u1 := kept_cell hb1 (b := w.heap.size) (o := 1) (v := .int .i64 0) (by omega) (by go_simp)
  have u2 := kept_cell hb1 (b := w.heap.size) (o := 2) (v := .slice none 0 0) (by omega) (by go_simp)
  have x0 := kept_free hb1 (b := w.heap.size) (o := 0) (by omega) (by go_simp)
  have x1 := kept_free hb1 (b := w.heap.size) (o := 1) (by omega) (by go_simp)
  have x2 := kept_free hb1 (b := w.heap.size) (o := 2) (by omega) (by go_simp)
  clear hz HF hb1
  by_cases hp : pFault ss = 0
  · have HSM2 := hid (tree_smallE hp)
    have HOK := hid (tree_okE hp)
    have HTC := hid (treeC_f hp)
    have HFI := hid (fun (i : Nat) (hi : i < ss.length) => fine hi hp)
    have h24 := (of_p hp).1
    have hln : ss.length ≤ 24 := by omega
    have HB1 := hid B1
    have b1 : (pFault ss != 0) = false := by simp [hp]
    clear h24 B1
    generalize hpf : pFault ss = pf at *
    clear hpf hp
    go_wp2_with fail
    go_loopw [4, 6, 16] (fun ev sp i wr => ∃ (j : Nat), i = .int .i64 j ∧ j ≤ ss.length ∧ (∃ a7 n7 c7, ev = .slice a7 n7 c7) ∧ (∃ us, sp = us) ∧ Hid (EOwn wr (w.heap.size + 1) ev (treeL (ss.take j))) ∧ Hid (Below (w.heap.size + 1) w1 wr)) (fun _ _ i _ => ss.length - (intOf i).toNat)
    case atStart => exact ⟨0, rfl, Nat.zero_le _, ⟨_, _, _, rfl⟩, ⟨_, rfl⟩, hid (EOwn.nil _ _), hid (Below.refl _ _)⟩
    case round =>
      obtain ⟨j, rfl, hjl, ⟨a7, n7, c7, rfl⟩, ⟨us, rfl⟩, HO, HB⟩ := hrel
      have HBW := hid (HB1.out.trans (HB.out.mono (Nat.le_succ _)))
      have lr := HB.out.size
      by_cases hlt : j < ss.length
      · have q1 : (j : Int) < (ss.length : Int) := by omega
        obtain ⟨g, o, vc, ve, rfl, hg, d0, d1, d2, d3, d4, d5, hvc, hve⟩ := (HA.out.below HBW.out).at hlt
        obtain ⟨a2, cap2, rfl⟩ := hvc.slice
        obtain ⟨a3, cap3, rfl⟩ := hve.slice
        have hb2 : Below wr.heap.size wr (wr.alloc (sobj ss[j] (.slice a2 ss[j].cond.length cap2) (.slice a3 ss[j].expr.length cap3))) := (Below.refl _ wr).alloc (Nat.le_refl _) _
        have HB2w := hid (HBW.out.trans (hb2.mono HBW.out.size))
        have HEL := hid (implElem 0 ss[j] _ _ _ (HFI.out j hlt) (HS.out.at hlt) (hvc.below hb2) (hve.below hb2) (HT.out.below HB2w.out) (HR.out.below HB2w.out hgl))
        unfold sagg at HEL
        have HTS := hid (take_succ_tree hlt)
        have htl : (treeL (ss.take j)).length ≤ 24 := by rw [take_tree_len (ss := ss) (j := j) (by omega)]; omega
        have HED : Hid (elemD ss[j] = ⟨str (wordL ss[j].kind), ss[j].parent, attrsOf ss[j]⟩) := hid rfl
        have HB2 := hid hb2
        generalize ss[j] = sj at *
        generalize htr : treeL (ss.take j) = tr at *
        clear hvc hve hb2 htr
        go_wp2_with fail
        refine HEL.out.mono ?_
        rintro e w3 ⟨⟨va, rfl, hoa⟩, hb3⟩
        obtain ⟨av, cv, rfl⟩ := Nst.own_slice hoa
        have HB3 := hid (HB2.out.trans (hb3.mono HB2.out.size))
        have HOA := hid hoa
        obtain ⟨F, hF⟩ := HO.out
        have HEF := hid hF
        have HRW := hid (Nst.own_kept hF.row (fun b hb => HB3.out.block b (Nst.own_lt hF.row hb).2))
        have l3 := HB3.out.size
        have hn7 : n7 = tr.length := by
          obtain ⟨a', c', e'⟩ := Nst.own_slice hF.row
          cases e'; rfl
        subst hn7
        clear hoa hb3 hF HEL HO
        go_wp2_with (at_builtin; go_must (refine wpList_append_own_at _ rfl _ _ 24 rfl (w.heap.size + 1) 53 j0 (.agg #[.string ⟨#[]⟩, .int .i64 0, .slice none 0 0]) 3 48 Tryz.underlying24 hj hy0 hy1 hy2 rfl (by decide) _ _ _ rfl (HRW.out.alloc _) ⟨w3.heap.size, 0, none⟩ 1 1 [.string (str (wordL sj.kind)), .int .i64 sj.parent, .slice av (attrsOf sj).length cv] rfl rfl (news #[.string (str (wordL sj.kind)), .int .i64 sj.parent, .slice av (attrsOf sj).length cv] _ _ rfl) (by simp [Value.oneCell']) (by unfold maxLen; omega) (by omega) (by simp; omega) ?_); intro v9 w9 hown9 hg9 _ hat9; obtain ⟨a9, c9, rfl⟩ := Nst.own_slice hown9)
        have hx4 : Below w3.heap.size w3 (w3.alloc (.cells #[.string (str (wordL sj.kind)), .int .i64 sj.parent, .slice av (attrsOf sj).length cv] 53)) := (Below.refl _ w3).alloc (Nat.le_refl _) _
        have HO9 : Hid (EOwn w9 (w.heap.size + 1) (.slice a9 (tr.length + 1) c9) (tr ++ [elemD sj])) := hid (push_at HEF.out (by omega) (HB3.out.trans (hx4.mono HB3.out.size)) (by rw [HED.out]; exact Nst.own_mono (HOA.out.alloc _) (by simp)) (by rw [HED.out]; exact hown9) hg9 hat9)
        have HB9 : Hid (Below (w.heap.size + 1) w1 w9) := hid (((HB.out.trans (HB3.out.mono (by omega))).alloc (by omega) _).grown hg9 (by simp; omega) (fun b e => (Nst.own_lt HRW.out e).1))
        clear hown9 hg9 hat9 hx4
        go_wp2
        exact ⟨⟨j + 1, by simp, by omega, ⟨_, _, _, rfl⟩, ⟨_, rfl⟩, hid (by rw [HTS.out]; exact HO9.out), HB9⟩, by simp [intOf]; omega⟩
      · have q1 : ¬ (j : Int) < (ss.length : Int) := by omega
        have hjn : j = ss.length := by omega
        have HO1 : Hid (EOwn wr (w.heap.size + 1) (.slice a7 n7 c7) (treeL ss)) := hid (by
          have := HO.out
          rw [hjn, List.take_length] at this
          exact this)
        have HFA := hid (Tr.implFault (treeL ss) _ wr HSM2.out HOK.out (HO1.out.elems.mono (Nat.zero_le _)) (Esc.Ent.below HE.out HBW.out hw) (by have := HBW.out.size; omega))
        have e0 := kept_cell HB.out (Nat.lt_succ_self _) u0
        have e1 := kept_cell HB.out (Nat.lt_succ_self _) u1
        have e2 := kept_cell HB.out (Nat.lt_succ_self _) u2
        have f0 := kept_free HB.out (Nat.lt_succ_self _) x0
        have f1 := kept_free HB.out (Nat.lt_succ_self _) x1
        have f2 := kept_free HB.out (Nat.lt_succ_self _) x2
        have lwr : w.heap.size < wr.heap.size := by omega
        clear HO hjn
        go_wp2_with fail
        refine HFA.out.mono ?_
        rintro e w5 ⟨rfl, hb5⟩
        have r0 := kept_cell hb5 lwr e0
        have r1 := kept_cell hb5 lwr e1
        have r2 := kept_cell hb5 lwr e2
        have t0 := kept_free hb5 lwr f0
        have t1 := kept_free hb5 lwr f1
        have t2 := kept_free hb5 lwr f2
        have HB5 := hid (HBW.out.trans (hb5.mono HBW.out.size))
        have HO5 := hid (HO1.out.below hb5)
        clear HFA hb5 e0 e1 e2 f0 f1 f2 HO1
        by_cases hf : fault (treeL ss) = 0
        · have HTE : Hid (treeE ss = treeL ss) := hid (by unfold treeE; rw [if_pos (HTC.out.trans hf)])
          have HT0 : Hid (treeC ss = 0) := hid (HTC.out.trans hf)
          have b2 : (fault (treeL ss) != 0) = false := by simp [hf]
          generalize hff : fault (treeL ss) = ff at *
          clear hff hf
          go_wp2
          refine bodyPost_ret (v := .agg #[.int .i64 0, .int .i64 0, .slice a7 n7 c7]) (by simp [results, Tryz.results8, go_sem, r0, r1, r2]) rfl ⟨⟨_, ret3 HT0.out.symm, ?_⟩, setB (setB (setB HB5.out (Nat.le_refl _) _) (Nat.le_refl _) _) (Nat.le_refl _) _⟩
          rw [HTE.out]
          exact HO5.out.keep (fun b h1 _ => heap_set3 (by omega))
        · have HTE : Hid (treeE ss = []) := hid (by unfold treeE; rw [if_neg (by rw [HTC.out]; exact hf)])
          have b2 : (fault (treeL ss) != 0) = true := by simpa using hf
          generalize hff : fault (treeL ss) = ff at *
          clear hff hf
          go_wp2
          refine bodyPost_ret (v := .agg #[.int .i64 ff, .int .i64 0, .slice none 0 0]) (by simp [results, Tryz.results8, go_sem, r0, r1, r2]) rfl ⟨⟨_, ret3 HTC.out.symm, ?_⟩, setB (setB (setB HB5.out (Nat.le_refl _) _) (Nat.le_refl _) _) (Nat.le_refl _) _⟩
          rw [HTE.out]
          exact EOwn.nil _ _
  · have HTC := hid (treeC_p hp)
    have HTE : Hid (treeE ss = []) := hid (by unfold treeE; rw [if_neg (by rw [HTC.out]; exact hp)])
    have b1 : (pFault ss != 0) = true := by simpa using hp
    have HB1 := hid B1
    generalize hpf : pFault ss = pf at *
    clear hpf hp B1
    go_wp2
    refine bodyPost_ret (v := .agg #[.int .i64 pf, .int .i64 0, .slice none 0 0]) (by simp [results, Tryz.results8, go_sem, u0, u1, u2]) rfl ⟨⟨_, ret3 HTC.out.symm, ?_⟩, setB (setB (setB HB1.out (Nat.le_refl _) _) (Nat.le_refl _) _) (Nat.le_refl _) _⟩
    rw [HTE.out]
    exact EOwn.nil _ _
end Tf
end Go.Proofs.YtgghigfflpbjiaaGreatDoor
