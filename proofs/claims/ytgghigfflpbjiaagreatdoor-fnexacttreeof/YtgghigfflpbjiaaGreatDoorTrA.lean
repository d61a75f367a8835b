/- Trees of marks in memory: slices of elements and attrs; the law's measure of them. -/
import Derived.Test.YtgghigfflpbjiaaGreatDoorTrM
import Derived.Test.YtgghigfflpbjiaaGreatDoorProg
import Derived.Below
import Derived.WalkSpells
import Derived.WalkLawsBesides
namespace Go.Proofs.YtgghigfflpbjiaaGreatDoor
open Go.RowKit
set_option linter.unusedVariables false
namespace Tr
theorem hid {p : Prop} (h : p) : Hid p := h
def AttrsAt (w : World) (B : Nat) (v : Value) (ats : List AttrD) : Prop :=
  ∃ a cap, v = .slice a ats.length cap ∧ ats.length ≤ cap ∧ cap ≤ maxLen ∧ (ats = [] ∨ ∃ g o, a = some ⟨g, o, none⟩ ∧ B ≤ g ∧ g < w.heap.size ∧
    ∀ i (h : i < ats.length), w.cell? ⟨g, o + i * 2, none⟩ = some (.string ats[i].name) ∧ w.cell? ⟨g, o + i * 2 + 1, none⟩ = some (.string ats[i].value))
def ElemsAt (w : World) (B : Nat) (v : Value) (es : List ElemD) : Prop :=
  ∃ a cap, v = .slice a es.length cap ∧ es.length ≤ cap ∧ cap ≤ maxLen ∧ (es = [] ∨ ∃ g o, a = some ⟨g, o, none⟩ ∧ B ≤ g ∧ g < w.heap.size ∧
    ∀ i (h : i < es.length), w.cell? ⟨g, o + i * 3, none⟩ = some (.string es[i].tag) ∧ w.cell? ⟨g, o + i * 3 + 1, none⟩ = some (.int .i64 es[i].parent) ∧
      ∃ va, w.cell? ⟨g, o + i * 3 + 2, none⟩ = some va ∧ AttrsAt w B va es[i].attrs)
/-- The same where every block from B on is kept. -/
theorem AttrsAt.kept {w w' : World} {B : Nat} {v : Value} {ats : List AttrD} (h : AttrsAt w B v ats) (hs : w.heap.size ≤ w'.heap.size) (hb : ∀ g, B ≤ g → g < w.heap.size → w'.heap[g]? = w.heap[g]?) : AttrsAt w' B v ats := by
  obtain ⟨a, cap, rfl, hle, hmx, h⟩ := h
  refine ⟨a, cap, rfl, hle, hmx, ?_⟩
  rcases h with h | ⟨g, o, rfl, hB, hg, hc⟩
  · exact .inl h
  · refine .inr ⟨g, o, rfl, hB, Nat.lt_of_lt_of_le hg hs, fun i hi => ?_⟩
    have e : ∀ off, w'.cell? ⟨g, off, none⟩ = w.cell? ⟨g, off, none⟩ := fun off => by simp only [World.cell?, hb g hB hg]
    rw [e, e]
    exact hc i hi
theorem ElemsAt.kept {w w' : World} {B : Nat} {v : Value} {es : List ElemD} (h : ElemsAt w B v es) (hs : w.heap.size ≤ w'.heap.size) (hb : ∀ g, B ≤ g → g < w.heap.size → w'.heap[g]? = w.heap[g]?) : ElemsAt w' B v es := by
  obtain ⟨a, cap, rfl, hle, hmx, h⟩ := h
  refine ⟨a, cap, rfl, hle, hmx, ?_⟩
  rcases h with h | ⟨g, o, rfl, hB, hg, hc⟩
  · exact .inl h
  · refine .inr ⟨g, o, rfl, hB, Nat.lt_of_lt_of_le hg hs, fun i hi => ?_⟩
    have e : ∀ off, w'.cell? ⟨g, off, none⟩ = w.cell? ⟨g, off, none⟩ := fun off => by simp only [World.cell?, hb g hB hg]
    obtain ⟨h0, h1, va, h2, h3⟩ := hc i hi
    exact ⟨(e _).trans h0, (e _).trans h1, va, (e _).trans h2, h3.kept hs hb⟩
theorem AttrsAt.below {w w' : World} {B : Nat} {v : Value} {ats : List AttrD} (h : AttrsAt w B v ats) (hb : Below w.heap.size w w') : AttrsAt w' B v ats := h.kept hb.size (fun g _ hg => hb.block g hg)
theorem ElemsAt.below {w w' : World} {B : Nat} {v : Value} {es : List ElemD} (h : ElemsAt w B v es) (hb : Below w.heap.size w w') : ElemsAt w' B v es := h.kept hb.size (fun g _ hg => hb.block g hg)
theorem AttrsAt.setBelow {w : World} {B : Nat} {v : Value} {ats : List AttrD} (h : AttrsAt w B v ats) {b o : Nat} (ha : b < B) (x : Value) : AttrsAt (w.setCell ⟨b, o, none⟩ x) B v ats :=
  h.kept (by simp [World.setCell]) (fun g hg _ => Below.heap_setCell _ _ _ _ (by dsimp only; omega))
theorem ElemsAt.setBelow {w : World} {B : Nat} {v : Value} {es : List ElemD} (h : ElemsAt w B v es) {b o : Nat} (ha : b < B) (x : Value) : ElemsAt (w.setCell ⟨b, o, none⟩ x) B v es :=
  h.kept (by simp [World.setCell]) (fun g hg _ => Below.heap_setCell _ _ _ _ (by dsimp only; omega))
theorem setB {B : Nat} {W w : World} (h : Below B W w) {b o : Nat} (hb : B ≤ b) (x : Value) : Below B W (w.setCell ⟨b, o, none⟩ x) := h.setCell hb x
theorem AttrsAt.mono {w : World} {B B' : Nat} {v : Value} {ats : List AttrD} (h : AttrsAt w B v ats) (hB : B' ≤ B) : AttrsAt w B' v ats := by
  obtain ⟨a, cap, rfl, hle, hmx, h⟩ := h
  refine ⟨a, cap, rfl, hle, hmx, ?_⟩
  rcases h with h | ⟨g, o, rfl, hb, hg, hc⟩
  · exact .inl h
  · exact .inr ⟨g, o, rfl, Nat.le_trans hB hb, hg, hc⟩
theorem ElemsAt.mono {w : World} {B B' : Nat} {v : Value} {es : List ElemD} (h : ElemsAt w B v es) (hB : B' ≤ B) : ElemsAt w B' v es := by
  obtain ⟨a, cap, rfl, hle, hmx, h⟩ := h
  refine ⟨a, cap, rfl, hle, hmx, ?_⟩
  rcases h with h | ⟨g, o, rfl, hb, hg, hc⟩
  · exact .inl h
  · refine .inr ⟨g, o, rfl, Nat.le_trans hB hb, hg, fun i hi => ?_⟩
    obtain ⟨h0, h1, va, h2, h3⟩ := hc i hi
    exact ⟨h0, h1, va, h2, h3.mono hB⟩
theorem AttrsAt.slice {w : World} {B : Nat} {v : Value} {ats : List AttrD} (h : AttrsAt w B v ats) : ∃ a cap, v = .slice a ats.length cap := by
  obtain ⟨a, cap, rfl, _⟩ := h; exact ⟨a, cap, rfl⟩
theorem ElemsAt.slice {w : World} {B : Nat} {v : Value} {es : List ElemD} (h : ElemsAt w B v es) : ∃ a cap, v = .slice a es.length cap := by
  obtain ⟨a, cap, rfl, _⟩ := h; exact ⟨a, cap, rfl⟩
theorem AttrsAt.at {w : World} {B : Nat} {a : Option Addr} {n cap : Nat} {ats : List AttrD} (h : AttrsAt w B (.slice a n cap) ats) {i : Nat} (hi : i < ats.length) :
    ∃ g o, a = some ⟨g, o, none⟩ ∧ g < w.heap.size ∧ w.cell? ⟨g, o + i * 2, none⟩ = some (.string ats[i].name) ∧ w.cell? ⟨g, o + i * 2 + 1, none⟩ = some (.string ats[i].value) := by
  obtain ⟨a', cap', e, _, _, h⟩ := h
  cases e
  rcases h with h | ⟨g, o, rfl, _, hg, hc⟩
  · subst h; simp at hi
  · exact ⟨g, o, rfl, hg, hc i hi⟩
theorem ElemsAt.at {w : World} {B : Nat} {a : Option Addr} {n cap : Nat} {es : List ElemD} (h : ElemsAt w B (.slice a n cap) es) {i : Nat} (hi : i < es.length) :
    ∃ g o va, a = some ⟨g, o, none⟩ ∧ g < w.heap.size ∧ w.cell? ⟨g, o + i * 3, none⟩ = some (.string es[i].tag) ∧ w.cell? ⟨g, o + i * 3 + 1, none⟩ = some (.int .i64 es[i].parent) ∧ w.cell? ⟨g, o + i * 3 + 2, none⟩ = some va ∧ AttrsAt w B va es[i].attrs := by
  obtain ⟨a', cap', e, _, _, h⟩ := h
  cases e
  rcases h with h | ⟨g, o, rfl, _, hg, hc⟩
  · subst h; simp at hi
  · obtain ⟨h0, h1, va, h2, h3⟩ := hc i hi
    exact ⟨g, o, va, rfl, hg, h0, h1, h2, h3⟩
theorem AttrsAt.cap {w : World} {B : Nat} {a : Option Addr} {n cap : Nat} {ats : List AttrD} (h : AttrsAt w B (.slice a n cap) ats) : ats.length ≤ cap ∧ cap ≤ maxLen := by
  obtain ⟨a', cap', e, h1, h2, _⟩ := h; cases e; exact ⟨h1, h2⟩
theorem ElemsAt.cap {w : World} {B : Nat} {a : Option Addr} {n cap : Nat} {es : List ElemD} (h : ElemsAt w B (.slice a n cap) es) : es.length ≤ cap ∧ cap ≤ maxLen := by
  obtain ⟨a', cap', e, h1, h2, _⟩ := h; cases e; exact ⟨h1, h2⟩
/-- No text of it is longer than a text can be. -/
def OkA (ats : List AttrD) : Prop := ∀ a ∈ ats, a.name.size ≤ maxLen ∧ a.value.size ≤ maxLen
def OkE (es : List ElemD) : Prop := ∀ e ∈ es, e.tag.size ≤ maxLen ∧ OkA e.attrs ∧ e.attrs.length ≤ maxLen
/-- All of it is within a bound. -/
def SmallA (n : Int) (ats : List AttrD) : Prop := (ats.length : Int) ≤ n ∧ ∀ a ∈ ats, (a.name.size : Int) ≤ n ∧ (a.value.size : Int) ≤ n
def SmallE (n : Int) (es : List ElemD) : Prop := (es.length : Int) ≤ n ∧ ∀ e ∈ es, (e.tag.size : Int) ≤ n ∧ SmallA n e.attrs
end Tr
end Go.Proofs.YtgghigfflpbjiaaGreatDoor
