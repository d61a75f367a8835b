/- Laid together: TrA, TfA. -/
import Derived.Test.YtgghigfflpbjiaaGreatDoorJWriteProc2
import Derived.Test.YtgghigfflpbjiaaGreatDoorProg
import Derived.Below
import Derived.WalkSpells
import Derived.WalkLawsBesides
import Derived.Test.YtgghigfflpbjiaaGreatDoorJWriteProc13
import Derived.RangeFuncBox
import Derived.Maps.AppendAt
/- Trees of marks in memory: slices of elements and attrs; the law's measure of them. -/
namespace Go.Proofs.YtgghigfflpbjiaaGreatDoor
open Go.RowKit
set_option linter.unusedVariables false
namespace Tr
theorem hid {p : Prop} (h : p) : Hid p := h
def AttrsAt (w : World) (B : Nat) (v : Value) (ats : List AttrD) : Prop :=
  ∃ a cap, v = .slice a ats.length cap ∧ ats.length ≤ cap ∧ cap ≤ maxLen ∧ (ats = [] ∨ ∃ g o, a = some ⟨g, o, none⟩ ∧ B ≤ g ∧ g < w.heap.size ∧
    ∀ i (h : i < ats.length), w.cell? ⟨g, o + i * 2, none⟩ = some (.string ats[i].name) ∧ w.cell? ⟨g, o + i * 2 + 1, none⟩ = some (.string ats[i].value))
def ElemsAt (w : World) (B : Nat) (v : Value) (es : List ElemD) : Prop :=
  ∃ a cap, v = .slice a es.length cap ∧ es.length ≤ cap ∧ cap ≤ maxLen ∧ (es = [] ∨ ∃ g o, a = some ⟨g, o, none⟩ ∧ B ≤ g ∧ g < w.heap.size ∧
    ∀ i (h : i < es.length), w.cell? ⟨g, o + i * 3, none⟩ = some (.string es[i].tag) ∧ w.cell? ⟨g, o + i * 3 + 1, none⟩ = some (.int .i64 es[i].parent) ∧
      ∃ va, w.cell? ⟨g, o + i * 3 + 2, none⟩ = some va ∧ AttrsAt w B va es[i].attrs)
/-- The same where every block from B on is kept. -/
theorem AttrsAt.kept {w w' : World} {B : Nat} {v : Value} {ats : List AttrD} (h : AttrsAt w B v ats) (hs : w.heap.size ≤ w'.heap.size) (hb : ∀ g, B ≤ g → g < w.heap.size → w'.heap[g]? = w.heap[g]?) : AttrsAt w' B v ats := by
  obtain ⟨a, cap, rfl, hle, hmx, h⟩ := h
  refine ⟨a, cap, rfl, hle, hmx, ?_⟩
  rcases h with h | ⟨g, o, rfl, hB, hg, hc⟩
  · exact .inl h
  · refine .inr ⟨g, o, rfl, hB, Nat.lt_of_lt_of_le hg hs, fun i hi => ?_⟩
    have e : ∀ off, w'.cell? ⟨g, off, none⟩ = w.cell? ⟨g, off, none⟩ := fun off => by simp only [World.cell?, hb g hB hg]
    rw [e, e]
    exact hc i hi
theorem ElemsAt.kept {w w' : World} {B : Nat} {v : Value} {es : List ElemD} (h : ElemsAt w B v es) (hs : w.heap.size ≤ w'.heap.size) (hb : ∀ g, B ≤ g → g < w.heap.size → w'.heap[g]? = w.heap[g]?) : ElemsAt w' B v es := by
  obtain ⟨a, cap, rfl, hle, hmx, h⟩ := h
  refine ⟨a, cap, rfl, hle, hmx, ?_⟩
  rcases h with h | ⟨g, o, rfl, hB, hg, hc⟩
  · exact .inl h
  · refine .inr ⟨g, o, rfl, hB, Nat.lt_of_lt_of_le hg hs, fun i hi => ?_⟩
    have e : ∀ off, w'.cell? ⟨g, off, none⟩ = w.cell? ⟨g, off, none⟩ := fun off => by simp only [World.cell?, hb g hB hg]
    obtain ⟨h0, h1, va, h2, h3⟩ := hc i hi
    exact ⟨(e _).trans h0, (e _).trans h1, va, (e _).trans h2, h3.kept hs hb⟩
theorem AttrsAt.below {w w' : World} {B : Nat} {v : Value} {ats : List AttrD} (h : AttrsAt w B v ats) (hb : Below w.heap.size w w') : AttrsAt w' B v ats := h.kept hb.size (fun g _ hg => hb.block g hg)
theorem ElemsAt.below {w w' : World} {B : Nat} {v : Value} {es : List ElemD} (h : ElemsAt w B v es) (hb : Below w.heap.size w w') : ElemsAt w' B v es := h.kept hb.size (fun g _ hg => hb.block g hg)
theorem AttrsAt.setBelow {w : World} {B : Nat} {v : Value} {ats : List AttrD} (h : AttrsAt w B v ats) {b o : Nat} (ha : b < B) (x : Value) : AttrsAt (w.setCell ⟨b, o, none⟩ x) B v ats :=
  h.kept (by simp [World.setCell]) (fun g hg _ => Below.heap_setCell _ _ _ _ (by dsimp only; omega))
theorem ElemsAt.setBelow {w : World} {B : Nat} {v : Value} {es : List ElemD} (h : ElemsAt w B v es) {b o : Nat} (ha : b < B) (x : Value) : ElemsAt (w.setCell ⟨b, o, none⟩ x) B v es :=
  h.kept (by simp [World.setCell]) (fun g hg _ => Below.heap_setCell _ _ _ _ (by dsimp only; omega))
theorem setB {B : Nat} {W w : World} (h : Below B W w) {b o : Nat} (hb : B ≤ b) (x : Value) : Below B W (w.setCell ⟨b, o, none⟩ x) := h.setCell hb x
theorem AttrsAt.mono {w : World} {B B' : Nat} {v : Value} {ats : List AttrD} (h : AttrsAt w B v ats) (hB : B' ≤ B) : AttrsAt w B' v ats := by
  obtain ⟨a, cap, rfl, hle, hmx, h⟩ := h
  refine ⟨a, cap, rfl, hle, hmx, ?_⟩
  rcases h with h | ⟨g, o, rfl, hb, hg, hc⟩
  · exact .inl h
  · exact .inr ⟨g, o, rfl, Nat.le_trans hB hb, hg, hc⟩
theorem ElemsAt.mono {w : World} {B B' : Nat} {v : Value} {es : List ElemD} (h : ElemsAt w B v es) (hB : B' ≤ B) : ElemsAt w B' v es := by
  obtain ⟨a, cap, rfl, hle, hmx, h⟩ := h
  refine ⟨a, cap, rfl, hle, hmx, ?_⟩
  rcases h with h | ⟨g, o, rfl, hb, hg, hc⟩
  · exact .inl h
  · refine .inr ⟨g, o, rfl, Nat.le_trans hB hb, hg, fun i hi => ?_⟩
    obtain ⟨h0, h1, va, h2, h3⟩ := hc i hi
    exact ⟨h0, h1, va, h2, h3.mono hB⟩
theorem AttrsAt.slice {w : World} {B : Nat} {v : Value} {ats : List AttrD} (h : AttrsAt w B v ats) : ∃ a cap, v = .slice a ats.length cap := by
  obtain ⟨a, cap, rfl, _⟩ := h; exact ⟨a, cap, rfl⟩
theorem ElemsAt.slice {w : World} {B : Nat} {v : Value} {es : List ElemD} (h : ElemsAt w B v es) : ∃ a cap, v = .slice a es.length cap := by
  obtain ⟨a, cap, rfl, _⟩ := h; exact ⟨a, cap, rfl⟩
theorem AttrsAt.at {w : World} {B : Nat} {a : Option Addr} {n cap : Nat} {ats : List AttrD} (h : AttrsAt w B (.slice a n cap) ats) {i : Nat} (hi : i < ats.length) :
    ∃ g o, a = some ⟨g, o, none⟩ ∧ g < w.heap.size ∧ w.cell? ⟨g, o + i * 2, none⟩ = some (.string ats[i].name) ∧ w.cell? ⟨g, o + i * 2 + 1, none⟩ = some (.string ats[i].value) := by
  obtain ⟨a', cap', e, _, _, h⟩ := h
  cases e
  rcases h with h | ⟨g, o, rfl, _, hg, hc⟩
  · subst h; simp at hi
  · exact ⟨g, o, rfl, hg, hc i hi⟩
theorem ElemsAt.at {w : World} {B : Nat} {a : Option Addr} {n cap : Nat} {es : List ElemD} (h : ElemsAt w B (.slice a n cap) es) {i : Nat} (hi : i < es.length) :
    ∃ g o va, a = some ⟨g, o, none⟩ ∧ g < w.heap.size ∧ w.cell? ⟨g, o + i * 3, none⟩ = some (.string es[i].tag) ∧ w.cell? ⟨g, o + i * 3 + 1, none⟩ = some (.int .i64 es[i].parent) ∧ w.cell? ⟨g, o + i * 3 + 2, none⟩ = some va ∧ AttrsAt w B va es[i].attrs := by
  obtain ⟨a', cap', e, _, _, h⟩ := h
  cases e
  rcases h with h | ⟨g, o, rfl, _, hg, hc⟩
  · subst h; simp at hi
  · obtain ⟨h0, h1, va, h2, h3⟩ := hc i hi
    exact ⟨g, o, va, rfl, hg, h0, h1, h2, h3⟩
theorem AttrsAt.cap {w : World} {B : Nat} {a : Option Addr} {n cap : Nat} {ats : List AttrD} (h : AttrsAt w B (.slice a n cap) ats) : ats.length ≤ cap ∧ cap ≤ maxLen := by
  obtain ⟨a', cap', e, h1, h2, _⟩ := h; cases e; exact ⟨h1, h2⟩
theorem ElemsAt.cap {w : World} {B : Nat} {a : Option Addr} {n cap : Nat} {es : List ElemD} (h : ElemsAt w B (.slice a n cap) es) : es.length ≤ cap ∧ cap ≤ maxLen := by
  obtain ⟨a', cap', e, h1, h2, _⟩ := h; cases e; exact ⟨h1, h2⟩
/-- No text of it is longer than a text can be. -/
def OkA (ats : List AttrD) : Prop := ∀ a ∈ ats, a.name.size ≤ maxLen ∧ a.value.size ≤ maxLen
def OkE (es : List ElemD) : Prop := ∀ e ∈ es, e.tag.size ≤ maxLen ∧ OkA e.attrs ∧ e.attrs.length ≤ maxLen
/-- All of it is within a bound. -/
def SmallA (n : Int) (ats : List AttrD) : Prop := (ats.length : Int) ≤ n ∧ ∀ a ∈ ats, (a.name.size : Int) ≤ n ∧ (a.value.size : Int) ≤ n
def SmallE (n : Int) (es : List ElemD) : Prop := (es.length : Int) ≤ n ∧ ∀ e ∈ es, (e.tag.size : Int) ≤ n ∧ SmallA n e.attrs
end Tr
end Go.Proofs.YtgghigfflpbjiaaGreatDoor
/- Elements that a function has made itself: a row of them, and a row of attrs for each, in blocks of their own. -/
namespace Go.Proofs.YtgghigfflpbjiaaGreatDoor
open Go.RowKit
set_option linter.unusedVariables false
namespace Tf
open Tr (AttrD ElemD AttrsAt ElemsAt)
open Nst (own)
def aval (a : AttrD) : List Value := [.string a.name, .string a.value]
def avals (l : List AttrD) : List Value := l.flatMap aval
theorem avals_len (l : List AttrD) : (avals l).length = l.length * 2 := by
  induction l with
  | nil => rfl
  | cons a l ih => simp only [avals, List.flatMap_cons, List.length_append, List.length_cons] at ih ⊢; rw [ih]; simp [aval]; omega
theorem avals_snoc (l : List AttrD) (a : AttrD) : avals (l ++ [a]) = avals l ++ aval a := by simp [avals]
theorem avals_get : ∀ (l : List AttrD) (i : Nat) (h : i < l.length), (avals l)[i * 2]? = some (.string l[i].name) ∧ (avals l)[i * 2 + 1]? = some (.string l[i].value)
  | [], i, h => by simp at h
  | a :: l, 0, h => by simp [avals, aval]
  | a :: l, i + 1, h => by
    have ih := avals_get l i (by simpa using h)
    have e : avals (a :: l) = .string a.name :: .string a.value :: avals l := rfl
    rw [e, show (i + 1) * 2 = i * 2 + 2 by omega, show i * 2 + 2 + 1 = (i * 2 + 1) + 2 by omega]
    simpa using ih
def EJ (es : List ElemD) (i : Nat) : ElemD := es[i]?.getD ⟨ByteArray.empty, 0, []⟩
theorem EJ_eq {es : List ElemD} {i : Nat} (h : i < es.length) : EJ es i = es[i] := by unfold EJ; rw [List.getElem?_eq_getElem h, Option.getD_some]
theorem EJ_left {es : List ElemD} {x : ElemD} {i : Nat} (h : i < es.length) : EJ (es ++ [x]) i = EJ es i := by unfold EJ; rw [List.getElem?_append_left h]
theorem EJ_last (es : List ElemD) (x : ElemD) : EJ (es ++ [x]) es.length = x := by unfold EJ; simp
def ecell (e : ElemD) (va : Value) : List Value := [.string e.tag, .int .i64 e.parent, va]
def asub (va : Value) (l : List AttrD) : Nst.Sub := ⟨68, 2, va, l.length, avals l⟩
abbrev EAt (w : World) (B : Nat) (v : Value) (es : List ElemD) (F : Nat → Value) : Prop := Nst.At w B 53 3 v es.length (fun j => ecell (EJ es j) (F j)) es.length (fun j => asub (F j) (EJ es j).attrs)
def EOwn (w : World) (B : Nat) (v : Value) (es : List ElemD) : Prop := ∃ F, EAt w B v es F
theorem ecell_len (e : ElemD) (va : Value) : (ecell e va).length = 3 := rfl
theorem EOwn.below {w w' : World} {B : Nat} {v : Value} {es : List ElemD} (h : EOwn w B v es) (hb : Below w.heap.size w w') : EOwn w' B v es := by
  obtain ⟨F, h⟩ := h; exact ⟨F, h.below hb⟩
theorem EOwn.keep {w w' : World} {B : Nat} {v : Value} {es : List ElemD} (h : EOwn w B v es) (hb : ∀ b, B ≤ b → b < w.heap.size → w'.heap[b]? = w.heap[b]?) : EOwn w' B v es := by
  obtain ⟨F, h⟩ := h; exact ⟨F, h.keep hb⟩
theorem EOwn.mono {w : World} {B B' : Nat} {v : Value} {es : List ElemD} (h : EOwn w B v es) (hb : B' ≤ B) : EOwn w B' v es := by
  obtain ⟨F, h⟩ := h; exact ⟨F, h.mono hb⟩
theorem EOwn.nil (w : World) (B : Nat) : EOwn w B (.slice none 0 0) [] := ⟨fun _ => .slice none 0 0, Nst.At.nil _ _ _ _ _ _⟩
theorem EOwn.slice {w : World} {B : Nat} {v : Value} {es : List ElemD} (h : EOwn w B v es) : ∃ a cap, v = .slice a es.length cap := by
  obtain ⟨F, h⟩ := h; exact Nst.own_slice h.row
theorem attrs_own {w : World} {B : Nat} {va : Value} {l : List AttrD} (h : w.ownsRow B 68 2 va l.length (avals l)) : AttrsAt w B va l := by
  rcases Nat.eq_zero_or_pos l.length with h0 | h0
  · have e : l = [] := List.eq_nil_of_length_eq_zero h0
    subst e
    rcases h.2 with ⟨rfl, _⟩ | ⟨g, cap, cur, rfl, _, _, _, hm, _⟩
    · exact ⟨_, _, rfl, Nat.le_refl _, Nat.zero_le _, .inl rfl⟩
    · exact ⟨_, _, rfl, Nat.zero_le _, hm, .inl rfl⟩
  · obtain ⟨g, cap, rfl, hB, hg, hc, hm⟩ := Nst.own_some h h0
    refine ⟨_, _, rfl, hc, hm, .inr ⟨g, 0, rfl, hB, hg, fun i hi => ?_⟩⟩
    have h1 := h.cellAt (i * 2) (by omega)
    have h2 := h.cellAt (i * 2 + 1) (by omega)
    have h3 := avals_get l i hi
    rw [Nat.zero_add]
    exact ⟨h1.trans h3.1, h2.trans h3.2⟩
theorem EOwn.elems {w : World} {B : Nat} {v : Value} {es : List ElemD} (h : EOwn w B v es) : ElemsAt w B v es := by
  obtain ⟨F, h⟩ := h
  rcases Nat.eq_zero_or_pos es.length with h0 | h0
  · have e : es = [] := List.eq_nil_of_length_eq_zero h0
    subst e
    rcases h.row.2 with ⟨rfl, _⟩ | ⟨g, cap, cur, rfl, _, _, _, hm, _⟩
    · exact ⟨_, _, rfl, Nat.le_refl _, Nat.zero_le _, .inl rfl⟩
    · exact ⟨_, _, rfl, Nat.zero_le _, hm, .inl rfl⟩
  · obtain ⟨g, cap, rfl, hB, hg, hc, hm⟩ := Nst.own_some h.row h0
    refine ⟨_, _, rfl, hc, hm, .inr ⟨g, 0, rfl, hB, hg, fun i hi => ?_⟩⟩
    have hl : ∀ j, j < es.length → (ecell (EJ es j) (F j)).length = 3 := fun j _ => rfl
    have h1 := h.cell hl hi (i := 0) (by omega)
    have h2 := h.cell hl hi (i := 1) (by omega)
    have h3 := h.cell hl hi (i := 2) (by omega)
    have h4 : AttrsAt w B (F i) (EJ es i).attrs := attrs_own (h.sub i hi)
    rw [EJ_eq hi] at h1 h2 h3 h4
    rw [Nat.zero_add]
    exact ⟨h1, h2, F i, h3, h4⟩
theorem push_at {w0 w w2 : World} {B : Nat} {v v' va : Value} {es : List ElemD} {x : ElemD} {F : Nat → Value} (h : EAt w0 B v es F) (hB : B ≤ w0.heap.size) (hb : Below w0.heap.size w0 w)
    (ha : w.ownsRow w0.heap.size 68 2 va x.attrs.length (avals x.attrs)) (hown : w2.ownsRow B 53 3 v' (es.length + 1) (Nst.flat (fun j => ecell (EJ es j) (F j)) es.length ++ ecell x va))
    (hg : w.grownBy w2 v.ownBlock) (hat : v'.ownBlock = v.ownBlock ∨ v'.ownBlock = some w.heap.size) : EOwn w2 B v' (es ++ [x]) := by
  have h1 := h.below hb
  have hva : ∀ b, own va b → w0.heap.size ≤ b := fun b hb => (Nst.own_lt ha hb).1
  have hp := h1.push (p := 1) (t := fun _ => asub va x.attrs) (fun i _ => Nst.own_mono ha hB) (fun i j hi hj hij => by omega)
    (fun i j hi _ b e1 e2 => by have := (Nst.own_lt (h.sub i hi) e1).2; have := hva b e2; omega)
    (fun i _ b e1 e2 => by have := (Nst.own_lt h.row e2).2; have := hva b e1; omega) hown hg hat
  refine ⟨fun j => if j = es.length then va else F j, ?_⟩
  unfold EAt
  rw [List.length_append]
  refine hp.congr (fun j hj => ?_) (fun j hj => ?_)
  · by_cases e : j = es.length
    · subst e
      simp only [if_true, EJ_last]
    · have hl : j < es.length := Nat.lt_of_le_of_ne (Nat.le_of_lt_succ hj) e
      simp only [e, if_false, EJ_left hl]
  · by_cases e : j = es.length
    · subst e
      simp only [if_true, EJ_last, Nat.lt_irrefl, if_false]
    · have hl : j < es.length := Nat.lt_of_le_of_ne (Nat.le_of_lt_succ hj) e
      simp only [e, if_false, EJ_left hl, hl, if_true]
theorem infoAttr : (Tryz.prog.info? 68).map (fun i => (i.zero, i.size, i.bytes)) = some (some (.agg #[.string ⟨#[]⟩, .string ⟨#[]⟩]), 2, 32) := by kernel_rfl
theorem infoElem : (Tryz.prog.info? 53).map (fun i => (i.zero, i.size, i.bytes)) = some (some (.agg #[.string ⟨#[]⟩, .int .i64 0, .slice none 0 0]), 3, 48) := by kernel_rfl
/-- The cells of one record that has just been laid. -/
theorem news {w : World} (cs : Array Value) (t : TypeId) (b : Nat) (hb : b = w.heap.size) : ∀ j u, cs.toList[j]? = some u → (w.alloc (.cells cs t)).cell? ((⟨b, 0, none⟩ : Addr).add j) = some u := by
  subst hb
  intro j u hj
  rw [Go.WideShapes.add_plain]
  simp only [Nat.zero_add, World.cell?_alloc_new]
  simpa using hj
end Tf
end Go.Proofs.YtgghigfflpbjiaaGreatDoor
