/- Laid together: TrA, TrN, TrS. -/
import Derived.Test.YtahkpgffoiaeiaaGreatDoorJProcOf2
import Derived.Test.YtahkpgffoiaeiaaGreatDoorProg
import Derived.Below
import Derived.WalkSpells
import Derived.WalkLawsBesides
import Derived.Test.YtahkpgffoiaeiaaGreatDoorJProcOf4
import Derived.Test.YtahkpgffoiaeiaaGreatDoorJProcOf11
import Derived.Deep.QuietTactic
import Derived.BigQuiet
/- Trees of marks in memory: slices of elements and attrs; the law's measure of them. -/
namespace Go.Proofs.YtahkpgffoiaeiaaGreatDoor
open Go.RowKit
set_option linter.unusedVariables false
namespace Tr
theorem hid {p : Prop} (h : p) : Hid p := h
def AttrsAt (w : World) (B : Nat) (v : Value) (ats : List AttrD) : Prop :=
  ∃ a cap, v = .slice a ats.length cap ∧ ats.length ≤ cap ∧ cap ≤ maxLen ∧ (ats = [] ∨ ∃ g o, a = some ⟨g, o, none⟩ ∧ B ≤ g ∧ g < w.heap.size ∧
    ∀ i (h : i < ats.length), w.cell? ⟨g, o + i * 2, none⟩ = some (.string ats[i].name) ∧ w.cell? ⟨g, o + i * 2 + 1, none⟩ = some (.string ats[i].value))
def ElemsAt (w : World) (B : Nat) (v : Value) (es : List ElemD) : Prop :=
  ∃ a cap, v = .slice a es.length cap ∧ es.length ≤ cap ∧ cap ≤ maxLen ∧ (es = [] ∨ ∃ g o, a = some ⟨g, o, none⟩ ∧ B ≤ g ∧ g < w.heap.size ∧
    ∀ i (h : i < es.length), w.cell? ⟨g, o + i * 3, none⟩ = some (.string es[i].tag) ∧ w.cell? ⟨g, o + i * 3 + 1, none⟩ = some (.int .i64 es[i].parent) ∧
      ∃ va, w.cell? ⟨g, o + i * 3 + 2, none⟩ = some va ∧ AttrsAt w B va es[i].attrs)
/-- The same where every block from B on is kept. -/
theorem AttrsAt.kept {w w' : World} {B : Nat} {v : Value} {ats : List AttrD} (h : AttrsAt w B v ats) (hs : w.heap.size ≤ w'.heap.size) (hb : ∀ g, B ≤ g → g < w.heap.size → w'.heap[g]? = w.heap[g]?) : AttrsAt w' B v ats := by
  obtain ⟨a, cap, rfl, hle, hmx, h⟩ := h
  refine ⟨a, cap, rfl, hle, hmx, ?_⟩
  rcases h with h | ⟨g, o, rfl, hB, hg, hc⟩
  · exact .inl h
  · refine .inr ⟨g, o, rfl, hB, Nat.lt_of_lt_of_le hg hs, fun i hi => ?_⟩
    have e : ∀ off, w'.cell? ⟨g, off, none⟩ = w.cell? ⟨g, off, none⟩ := fun off => by simp only [World.cell?, hb g hB hg]
    rw [e, e]
    exact hc i hi
theorem ElemsAt.kept {w w' : World} {B : Nat} {v : Value} {es : List ElemD} (h : ElemsAt w B v es) (hs : w.heap.size ≤ w'.heap.size) (hb : ∀ g, B ≤ g → g < w.heap.size → w'.heap[g]? = w.heap[g]?) : ElemsAt w' B v es := by
  obtain ⟨a, cap, rfl, hle, hmx, h⟩ := h
  refine ⟨a, cap, rfl, hle, hmx, ?_⟩
  rcases h with h | ⟨g, o, rfl, hB, hg, hc⟩
  · exact .inl h
  · refine .inr ⟨g, o, rfl, hB, Nat.lt_of_lt_of_le hg hs, fun i hi => ?_⟩
    have e : ∀ off, w'.cell? ⟨g, off, none⟩ = w.cell? ⟨g, off, none⟩ := fun off => by simp only [World.cell?, hb g hB hg]
    obtain ⟨h0, h1, va, h2, h3⟩ := hc i hi
    exact ⟨(e _).trans h0, (e _).trans h1, va, (e _).trans h2, h3.kept hs hb⟩
theorem AttrsAt.below {w w' : World} {B : Nat} {v : Value} {ats : List AttrD} (h : AttrsAt w B v ats) (hb : Below w.heap.size w w') : AttrsAt w' B v ats := h.kept hb.size (fun g _ hg => hb.block g hg)
theorem ElemsAt.below {w w' : World} {B : Nat} {v : Value} {es : List ElemD} (h : ElemsAt w B v es) (hb : Below w.heap.size w w') : ElemsAt w' B v es := h.kept hb.size (fun g _ hg => hb.block g hg)
theorem AttrsAt.setBelow {w : World} {B : Nat} {v : Value} {ats : List AttrD} (h : AttrsAt w B v ats) {b o : Nat} (ha : b < B) (x : Value) : AttrsAt (w.setCell ⟨b, o, none⟩ x) B v ats :=
  h.kept (by simp [World.setCell]) (fun g hg _ => Below.heap_setCell _ _ _ _ (by dsimp only; omega))
theorem ElemsAt.setBelow {w : World} {B : Nat} {v : Value} {es : List ElemD} (h : ElemsAt w B v es) {b o : Nat} (ha : b < B) (x : Value) : ElemsAt (w.setCell ⟨b, o, none⟩ x) B v es :=
  h.kept (by simp [World.setCell]) (fun g hg _ => Below.heap_setCell _ _ _ _ (by dsimp only; omega))
theorem setB {B : Nat} {W w : World} (h : Below B W w) {b o : Nat} (hb : B ≤ b) (x : Value) : Below B W (w.setCell ⟨b, o, none⟩ x) := h.setCell hb x
theorem AttrsAt.mono {w : World} {B B' : Nat} {v : Value} {ats : List AttrD} (h : AttrsAt w B v ats) (hB : B' ≤ B) : AttrsAt w B' v ats := by
  obtain ⟨a, cap, rfl, hle, hmx, h⟩ := h
  refine ⟨a, cap, rfl, hle, hmx, ?_⟩
  rcases h with h | ⟨g, o, rfl, hb, hg, hc⟩
  · exact .inl h
  · exact .inr ⟨g, o, rfl, Nat.le_trans hB hb, hg, hc⟩
theorem ElemsAt.mono {w : World} {B B' : Nat} {v : Value} {es : List ElemD} (h : ElemsAt w B v es) (hB : B' ≤ B) : ElemsAt w B' v es := by
  obtain ⟨a, cap, rfl, hle, hmx, h⟩ := h
  refine ⟨a, cap, rfl, hle, hmx, ?_⟩
  rcases h with h | ⟨g, o, rfl, hb, hg, hc⟩
  · exact .inl h
  · refine .inr ⟨g, o, rfl, Nat.le_trans hB hb, hg, fun i hi => ?_⟩
    obtain ⟨h0, h1, va, h2, h3⟩ := hc i hi
    exact ⟨h0, h1, va, h2, h3.mono hB⟩
theorem AttrsAt.slice {w : World} {B : Nat} {v : Value} {ats : List AttrD} (h : AttrsAt w B v ats) : ∃ a cap, v = .slice a ats.length cap := by
  obtain ⟨a, cap, rfl, _⟩ := h; exact ⟨a, cap, rfl⟩
theorem ElemsAt.slice {w : World} {B : Nat} {v : Value} {es : List ElemD} (h : ElemsAt w B v es) : ∃ a cap, v = .slice a es.length cap := by
  obtain ⟨a, cap, rfl, _⟩ := h; exact ⟨a, cap, rfl⟩
theorem AttrsAt.at {w : World} {B : Nat} {a : Option Addr} {n cap : Nat} {ats : List AttrD} (h : AttrsAt w B (.slice a n cap) ats) {i : Nat} (hi : i < ats.length) :
    ∃ g o, a = some ⟨g, o, none⟩ ∧ g < w.heap.size ∧ w.cell? ⟨g, o + i * 2, none⟩ = some (.string ats[i].name) ∧ w.cell? ⟨g, o + i * 2 + 1, none⟩ = some (.string ats[i].value) := by
  obtain ⟨a', cap', e, _, _, h⟩ := h
  cases e
  rcases h with h | ⟨g, o, rfl, _, hg, hc⟩
  · subst h; simp at hi
  · exact ⟨g, o, rfl, hg, hc i hi⟩
theorem ElemsAt.at {w : World} {B : Nat} {a : Option Addr} {n cap : Nat} {es : List ElemD} (h : ElemsAt w B (.slice a n cap) es) {i : Nat} (hi : i < es.length) :
    ∃ g o va, a = some ⟨g, o, none⟩ ∧ g < w.heap.size ∧ w.cell? ⟨g, o + i * 3, none⟩ = some (.string es[i].tag) ∧ w.cell? ⟨g, o + i * 3 + 1, none⟩ = some (.int .i64 es[i].parent) ∧ w.cell? ⟨g, o + i * 3 + 2, none⟩ = some va ∧ AttrsAt w B va es[i].attrs := by
  obtain ⟨a', cap', e, _, _, h⟩ := h
  cases e
  rcases h with h | ⟨g, o, rfl, _, hg, hc⟩
  · subst h; simp at hi
  · obtain ⟨h0, h1, va, h2, h3⟩ := hc i hi
    exact ⟨g, o, va, rfl, hg, h0, h1, h2, h3⟩
theorem AttrsAt.cap {w : World} {B : Nat} {a : Option Addr} {n cap : Nat} {ats : List AttrD} (h : AttrsAt w B (.slice a n cap) ats) : ats.length ≤ cap ∧ cap ≤ maxLen := by
  obtain ⟨a', cap', e, h1, h2, _⟩ := h; cases e; exact ⟨h1, h2⟩
theorem ElemsAt.cap {w : World} {B : Nat} {a : Option Addr} {n cap : Nat} {es : List ElemD} (h : ElemsAt w B (.slice a n cap) es) : es.length ≤ cap ∧ cap ≤ maxLen := by
  obtain ⟨a', cap', e, h1, h2, _⟩ := h; cases e; exact ⟨h1, h2⟩
/-- No text of it is longer than a text can be. -/
def OkA (ats : List AttrD) : Prop := ∀ a ∈ ats, a.name.size ≤ maxLen ∧ a.value.size ≤ maxLen
def OkE (es : List ElemD) : Prop := ∀ e ∈ es, e.tag.size ≤ maxLen ∧ OkA e.attrs ∧ e.attrs.length ≤ maxLen
/-- All of it is within a bound. -/
def SmallA (n : Int) (ats : List AttrD) : Prop := (ats.length : Int) ≤ n ∧ ∀ a ∈ ats, (a.name.size : Int) ≤ n ∧ (a.value.size : Int) ≤ n
def SmallE (n : Int) (es : List ElemD) : Prop := (es.length : Int) ≤ n ∧ ∀ e ∈ es, (e.tag.size : Int) ≤ n ∧ SmallA n e.attrs
set_option maxRecDepth 100000 in
set_option maxHeartbeats 400000 in
theorem szAttr (a : AttrD) (n : Int) (w : World) (h0 : 0 ≤ n) (hn : n ≤ 1048576) (h1 : a.name.size ≤ maxLen) (h2 : a.value.size ≤ maxLen) :
    Calls Tryz.prog 50 #[.agg #[.string a.name, .string a.value], .int .i64 n] w fun e w' => (∃ r : Int, e = .returned (.int .i64 r) ∧ -1 ≤ r ∧ r ≤ n ∧ (0 ≤ r → (a.name.size : Int) ≤ n ∧ (a.value.size : Int) ≤ n)) ∧ Below w.heap.size w w' := by
  unfold maxLen at h1 h2
  by_cases q1 : n - (a.name.size : Int) < 0
  · go_enter Tryz.func50, Tryz.ntmps50
    go_wp2
    go_ret
    exact ⟨⟨-1, rfl, by omega, by omega, by omega⟩, (Below.refl _ _).alloc (Nat.le_refl _) _⟩
  · by_cases q2 : n - (a.name.size : Int) - (a.value.size : Int) < 0
    · go_enter Tryz.func50, Tryz.ntmps50
      go_wp2
      go_ret
      exact ⟨⟨-1, rfl, by omega, by omega, by omega⟩, (Below.refl _ _).alloc (Nat.le_refl _) _⟩
    · go_enter Tryz.func50, Tryz.ntmps50
      go_wp2
      go_ret
      exact ⟨⟨_, rfl, by omega, by omega, by omega⟩, (Below.refl _ _).alloc (Nat.le_refl _) _⟩
set_option maxRecDepth 100000 in
set_option maxHeartbeats 1000000 in
theorem szAttrS (B : Nat) (ats : List AttrD) (v : Value) (n : Int) (w : World) (h0 : 0 ≤ n) (hn : n ≤ 1048576) (hl : ats.length ≤ maxLen) (hk : OkA ats) (ha : AttrsAt w B v ats) :
    Calls Tryz.prog 26 #[v, .int .i64 n] w fun e w' => (∃ r : Int, e = .returned (.int .i64 r) ∧ -1 ≤ r ∧ r ≤ n ∧ (0 ≤ r → SmallA n ats)) ∧ Below w.heap.size w w' := by
  obtain ⟨a, cap, rfl⟩ := ha.slice
  have HA : Hid (AttrsAt w B (.slice a ats.length cap) ats) := ha
  have HK : Hid (OkA ats) := hk
  clear ha hk
  unfold maxLen at hl
  by_cases q1 : n - (ats.length : Int) < 0
  · go_enter Tryz.func26, Tryz.ntmps26
    go_wp2
    go_ret
    exact ⟨⟨-1, rfl, by omega, by omega, by omega⟩, Below.refl _ _⟩
  · go_enter Tryz.func26, Tryz.ntmps26
    go_wp2
    go_loopw [1, 5] (fun m i wr => ∃ (k : Nat) (z : Int), i = .int .i64 k ∧ m = .int .i64 z ∧ 0 ≤ z ∧ z ≤ n ∧ k ≤ ats.length ∧ Hid (∀ j (h : j < ats.length), j < k → (ats[j].name.size : Int) ≤ n ∧ (ats[j].value.size : Int) ≤ n) ∧ Below w.heap.size w wr) (fun _ i _ => ats.length - (intOf i).toNat)
    case atStart => exact ⟨0, _, rfl, rfl, by omega, by omega, Nat.zero_le _, fun j _ h => by omega, Below.refl _ _⟩
    case round =>
      obtain ⟨k, z, rfl, rfl, hz0, hzn, hkl, HJ, hbel⟩ := hrel
      by_cases hlt : k < ats.length
      · obtain ⟨g, o, rfl, hg, c0, c1⟩ := (HA.out.below hbel).at hlt
        have hka := HK.out ats[k] (List.getElem_mem hlt)
        have q1 : (k : Int) < (ats.length : Int) := by omega
        go_wp2_with fail
        refine (szAttr ats[k] z _ hz0 (by omega) hka.1 hka.2).mono ?_
        rintro e w1 ⟨⟨r, rfl, hr1, hr2, hr3⟩, hb1⟩
        have hB := hbel.trans (hb1.mono hbel.size)
        by_cases hr : r < 0
        · go_wp2
          go_ret
          exact ⟨⟨-1, rfl, by omega, by omega, by omega⟩, hB⟩
        · have HJ2 : Hid (∀ j (h : j < ats.length), j < k + 1 → (ats[j].name.size : Int) ≤ n ∧ (ats[j].value.size : Int) ≤ n) := hid (fun j h hj => by
            by_cases e : j = k
            · subst e; have := hr3 (by omega); omega
            · exact HJ.out j h (by omega))
          go_wp2
          exact ⟨⟨k + 1, r, by simp, rfl, by omega, by omega, by omega, HJ2, hB⟩, by simp [intOf]; omega⟩
      · have HJ2 : Hid (SmallA n ats) := hid ⟨by omega, fun x hx => by
          obtain ⟨j, hj, rfl⟩ := List.getElem_of_mem hx
          exact HJ.out j hj (by omega)⟩
        go_wp2
        go_ret
        exact ⟨⟨z, rfl, by omega, by omega, fun _ => HJ2.out⟩, hbel⟩
end Tr
end Go.Proofs.YtahkpgffoiaeiaaGreatDoor
/- Names: the text NmA has them; this one hands it on. -/
namespace Go.Proofs.YtahkpgffoiaeiaaGreatDoor
end Go.Proofs.YtahkpgffoiaeiaaGreatDoor
/- What is wrong with a tree, as the specification tells it: attrs, paths, elements. -/
namespace Go.Proofs.YtahkpgffoiaeiaaGreatDoor
open Go.RowKit
set_option linter.unusedVariables false
namespace Tr
theorem AttrsAt.take {w : World} {B : Nat} {a : Option Addr} {n cap : Nat} {l : List AttrD} (h : AttrsAt w B (.slice a n cap) l) {k : Nat} (hk : k ≤ l.length) : AttrsAt w B (.slice a k cap) (l.take k) := by
  obtain ⟨a', cap', e, h1, h2, h⟩ := h
  cases e
  refine ⟨a, cap, by rw [List.length_take, Nat.min_eq_left hk], by rw [List.length_take]; omega, h2, ?_⟩
  rcases h with h | ⟨g, o, rfl, hB, hg, hc⟩
  · exact .inl (by simp [h])
  · refine .inr ⟨g, o, rfl, hB, hg, fun i hi => ?_⟩
    have hi' : i < l.length := by simp at hi; omega
    rw [List.getElem_take]
    exact hc i hi'
theorem AttrsAt.drew {w : World} {B : Nat} {v : Value} {l : List AttrD} (h : AttrsAt w B v l) (n : Nat) : AttrsAt (w.drewN n) B v l := h.kept (Nat.le_refl _) (fun _ _ _ => rfl)
theorem ElemsAt.drew {w : World} {B : Nat} {v : Value} {l : List ElemD} (h : ElemsAt w B v l) (n : Nat) : ElemsAt (w.drewN n) B v l := h.kept (Nat.le_refl _) (fun _ _ _ => rfl)
theorem below_drewN' {B : Nat} {a w : World} (h : Below B a w) (n : Nat) : Below B a (w.drewN n) := ⟨h.os, h.tape, h.output, h.size, h.block⟩
theorem vcode_same (l : List UInt8) : vcode l = Esc.vcode l := rfl
theorem chain_get {es : List ElemD} {a : Nat} {r : List Nat} (h : Chain es (a :: r)) : ∃ h1 : a < es.length, es[a].parent = top r := by
  obtain ⟨⟨e, he, hp⟩, _, _⟩ := h
  obtain ⟨h1, h2⟩ := List.getElem?_eq_some_iff.1 he
  exact ⟨h1, by rw [h2]; exact hp⟩
/-- The first place of a name, -1 where there is none. -/
def attrIdx (l : List AttrD) (nm : ByteArray) : Int := match l.findIdx? (fun a => a.name.toList == nm.toList) with
  | some i => i
  | none => -1
theorem idx_found {l : List AttrD} {nm : ByteArray} {k : Nat} (hk : k < l.length) (hy : (l[k].name.toList == nm.toList) = true) (hn : ∀ j (h : j < l.length), j < k → (l[j].name.toList == nm.toList) = false) : attrIdx l nm = k := by
  unfold attrIdx
  have h : l.findIdx? (fun a => a.name.toList == nm.toList) = some k := List.findIdx?_eq_some_iff_getElem.2 ⟨hk, hy, fun j hj => by rw [hn j (Nat.lt_trans hj hk) hj]; decide⟩
  rw [h]
theorem idx_none {l : List AttrD} {nm : ByteArray} (hn : ∀ j (h : j < l.length), (l[j].name.toList == nm.toList) = false) : attrIdx l nm = -1 := by
  unfold attrIdx
  have h : l.findIdx? (fun a => a.name.toList == nm.toList) = none := List.findIdx?_eq_none_iff.2 (fun a ha => by
    obtain ⟨j, hj, rfl⟩ := List.getElem_of_mem ha
    exact hn j hj)
  rw [h]
theorem idx_lo (l : List AttrD) (nm : ByteArray) : -1 ≤ attrIdx l nm := by unfold attrIdx; split <;> omega
theorem idx_has (l : List AttrD) (nm : ByteArray) : hasName l nm = decide (0 ≤ attrIdx l nm) := by
  unfold hasName attrIdx
  cases h : l.findIdx? (fun a => a.name.toList == nm.toList) with
  | none =>
    rw [List.findIdx?_eq_none_iff] at h
    rw [List.any_eq_false.2 (fun a ha => by rw [h a ha]; decide)]
    rfl
  | some i =>
    obtain ⟨hi, hy, _⟩ := List.findIdx?_eq_some_iff_getElem.1 h
    rw [List.any_eq_true.2 ⟨l[i], List.getElem_mem hi, hy⟩]
    have : (0 : Int) ≤ (i : Int) := by omega
    simp [this]
set_option maxRecDepth 100000 in
set_option maxHeartbeats 400000 in
theorem specIn (v a b : Int) (w : World) : Calls Tryz.prog 28 #[.int .i64 v, .int .i64 a, .int .i64 b] w fun e w' => e = .returned (.bool (decide (a ≤ v) && decide (v ≤ b))) ∧ w' = w := by
  by_cases h1 : a ≤ v
  · by_cases h2 : v ≤ b
    · go_enter Tryz.func28, Tryz.ntmps28
      go_wp2
      go_ret
      exact ⟨by simp [h1, h2], rfl⟩
    · go_enter Tryz.func28, Tryz.ntmps28
      go_wp2
      go_ret
      exact ⟨by simp [h2], rfl⟩
  · go_enter Tryz.func28, Tryz.ntmps28
    go_wp2
    go_ret
    exact ⟨by simp; omega, rfl⟩
set_option maxRecDepth 100000 in
set_option maxHeartbeats 1000000 in
theorem specAttr (B : Nat) (l : List AttrD) (v : Value) (nm : ByteArray) (w : World) (hl : l.length ≤ 1048576) (ha : AttrsAt w B v l) :
    Calls Tryz.prog 51 #[v, .string nm] w fun e w' => e = .returned (.int .i64 (attrIdx l nm)) ∧ w' = w := by
  obtain ⟨a, cap, rfl⟩ := ha.slice
  have HA := hid ha
  clear ha
  go_enter Tryz.func51, Tryz.ntmps51
  go_wp2
  go_loop [5] (fun i => ∃ k : Nat, k ≤ l.length ∧ i = .int .i64 k ∧ Hid (∀ j (h : j < l.length), j < k → (l[j].name.toList == nm.toList) = false)) (fun i => l.length - (intOf i).toNat)
  case atStart => exact ⟨0, Nat.zero_le _, rfl, fun j _ h => by omega⟩
  case round =>
    obtain ⟨k, hk, rfl, HJ⟩ := hrel
    by_cases hlt : k < l.length
    · obtain ⟨g, o, rfl, hg, c0, c1⟩ := HA.out.at hlt
      have q1 : (k : Int) < (l.length : Int) := by omega
      cases hE : (l[k].name.toList == nm.toList)
      · have HJ2 : Hid (∀ j (h : j < l.length), j < k + 1 → (l[j].name.toList == nm.toList) = false) := hid (fun j h hj => by
          by_cases e : j = k
          · subst e; exact hE
          · exact HJ.out j h (by omega))
        go_wp2
        exact ⟨⟨k + 1, by omega, by go_num, HJ2⟩, by simp [intOf]; omega⟩
      · have HV : Hid (attrIdx l nm = k) := idx_found hlt hE HJ.out
        go_wp2
        go_ret
        exact ⟨by rw [HV.out]; rfl, rfl⟩
    · have HV : Hid (attrIdx l nm = -1) := idx_none (fun j hj => HJ.out j hj (by omega))
      go_wp2
      go_ret
      exact ⟨by rw [HV.out]; rfl, rfl⟩
set_option maxRecDepth 100000 in
set_option maxHeartbeats 2000000 in
theorem specAttrs (B : Nat) (l : List AttrD) (v : Value) (w : World) (hl : l.length ≤ 1048576) (hk : OkA l) (ha : AttrsAt w B v l) :
    Calls Tryz.prog 31 #[v] w fun e w' => e = .returned (.int .i64 (acode l)) ∧ Below w.heap.size w w' := by
  obtain ⟨a, cap, rfl⟩ := ha.slice
  have HA := hid ha
  have HK := hid hk
  clear ha hk
  go_enter Tryz.func31, Tryz.ntmps31
  go_wp2
  go_loopw [3, 4, 5] (fun i _ _ wr => ∃ k : Nat, i = .int .i64 k ∧ Hid (SeenA l k) ∧ k ≤ l.length ∧ Hid (Below w.heap.size w wr)) (fun i _ _ _ => l.length - (intOf i).toNat)
  case atStart => exact ⟨0, rfl, SeenA.start l, Nat.zero_le _, Below.refl _ _⟩
  case round =>
    obtain ⟨k, rfl, HS, hkl, HB⟩ := hrel
    by_cases hlt : k < l.length
    · have hA := HA.out.below HB.out
      obtain ⟨g, o, rfl, hg, c0, c1⟩ := hA.at hlt
      have hcap := hA.cap.1
      have hcap2 := hA.cap.2
      unfold maxLen at hcap2
      have HA2 := hid hA
      clear hA
      have q1 : (k : Int) < (l.length : Int) := by omega
      have hkk := HK.out l[k] (List.getElem_mem hlt)
      have h1 := hkk.1
      have h2 := hkk.2
      clear hkk
      have HN := hid (fun w' => spec_nf1 l[k].name w' h1)
      have HX := hid (fun w' => Esc.specValue l[k].value w' h2)
      by_cases hn : nf l[k].name.data.toList = 0
      · have b1 : (nf l[k].name.data.toList != 0) = false := by simp [hn]
        have HNM := hid hn
        have HT := hid (fun n => specAttr B (l.take k) (.slice (some ⟨g, o, none⟩) k cap) l[k].name (wr.drewN n) (by rw [List.length_take]; omega) ((HA2.out.take hkl).drew n))
        have hix := idx_has (l.take k) l[k].name
        have hlo := idx_lo (l.take k) l[k].name
        generalize attrIdx (l.take k) l[k].name = ix at *
        by_cases hx : 0 ≤ ix
        · have HV : Hid (acode l = 6) := hid (HS.out.taken hlt hn (by rw [hix]; simpa using hx))
          clear hn hix
          go_wp2_with (go_at_call 27; refine (HN.out _).mono ?_; rintro e w' ⟨rfl, rfl⟩)
          go_quiet ((go_at_call 51; exact Calls.quiet_of_same (HT.out _)))
          go_wp2
          go_ret
          exact ⟨by rw [HV.out]; rfl, below_drewN' HB.out nq⟩
        · by_cases hv : vcode l[k].value.data.toList = 0
          · have HV : Hid (SeenA l (k + 1)) := hid (HS.out.next hlt hn (by rw [hix]; simpa using hx) hv)
            have b2 : (Esc.vcode l[k].value.data.toList != 0) = false := by rw [← vcode_same]; simp [hv]
            clear hn hix hv
            go_wp2_with (go_at_call 27; refine (HN.out _).mono ?_; rintro e w' ⟨rfl, rfl⟩)
            go_quiet ((go_at_call 51; exact Calls.quiet_of_same (HT.out _)))
            go_wp2_with (go_at_call 52; refine (HX.out _).mono ?_; rintro e w' ⟨rfl, rfl⟩)
            exact ⟨⟨k + 1, by simp, HV, by omega, hid (below_drewN' HB.out nq)⟩, by simp [intOf]; omega⟩
          · have HV : Hid (acode l = Esc.vcode l[k].value.data.toList) := hid (HS.out.value hlt hn (by rw [hix]; simpa using hx) hv)
            have b2 : (Esc.vcode l[k].value.data.toList != 0) = true := by rw [← vcode_same]; simpa using hv
            clear hn hix hv
            go_wp2_with (go_at_call 27; refine (HN.out _).mono ?_; rintro e w' ⟨rfl, rfl⟩)
            go_quiet ((go_at_call 51; exact Calls.quiet_of_same (HT.out _)))
            go_wp2_with (go_at_call 52; refine (HX.out _).mono ?_; rintro e w' ⟨rfl, rfl⟩)
            go_ret
            exact ⟨by rw [HV.out]; rfl, below_drewN' HB.out nq⟩
      · have b1 : (nf l[k].name.data.toList != 0) = true := by simpa using hn
        have HV : Hid (acode l = nf l[k].name.data.toList) := hid (HS.out.name hlt hn)
        clear hn
        go_wp2_with (go_at_call 27; refine (HN.out _).mono ?_; rintro e w' ⟨rfl, rfl⟩)
        go_ret
        exact ⟨by rw [HV.out]; rfl, HB.out⟩
    · have HV : Hid (acode l = 0) := hid (HS.out.done hlt)
      go_wp2
      go_ret
      exact ⟨by rw [HV.out]; rfl, HB.out⟩
set_option maxRecDepth 100000 in
set_option maxHeartbeats 1000000 in
theorem specLine (B : Nat) (es : List ElemD) (v : Value) (i : Nat) (S : List Nat) (w : World) (hl : es.length ≤ 40) (hi : i < es.length) (hc : Chain es S) (h1 : top S = (i : Int) - 1) (ha : ElemsAt w B v es) :
    Calls Tryz.prog 29 #[v, .int .i64 i] w fun e w' => e = .returned (.bool (onPath es[i].parent S)) ∧ w' = w := by
  obtain ⟨a, cap, rfl⟩ := ha.slice
  obtain ⟨g, o, vi, rfl, hg, d0, d1, d2, _⟩ := ha.at hi
  have HA := hid ha
  have HC := hid hc
  have H1 := hid h1
  clear ha hc h1 d0 d2
  have q1 : (i : Int) < (es.length : Int) := by omega
  go_enter Tryz.func29, Tryz.ntmps29
  go_wp2
  go_loop [5] (fun x => ∃ S' : List Nat, x = .int .i64 (top S') ∧ Hid (Chain es S' ∧ onPath es[i].parent S = onPath es[i].parent S')) (fun x => (intOf x + 1).toNat)
  case atStart => exact ⟨S, by rw [H1.out], HC.out, rfl⟩
  case round =>
    obtain ⟨S', rfl, HS⟩ := hrel
    cases S' with
    | nil =>
      have HV : Hid (onPath es[i].parent S = false) := hid (by rw [HS.out.2]; rfl)
      have q2 : ¬ (0 : Int) ≤ top [] := by decide
      go_wp2
      go_ret
      exact ⟨by rw [HV.out]; rfl, rfl⟩
    | cons x r =>
      obtain ⟨hx, hp⟩ := chain_get HS.out.1
      have htl := top_lt HS.out.1
      have htg := top_ge r
      have hct := chain_tail HS.out.1
      obtain ⟨g', o', vx, e', hg', c0, c1, c2, _⟩ := HA.out.at hx
      cases e'
      rw [hp] at c1
      clear c0 c2
      have ht : top (x :: r) = (x : Int) := rfl
      rw [ht]
      have q2 : (0 : Int) ≤ (x : Int) := by omega
      have q3 : (x : Int) < (es.length : Int) := by omega
      by_cases he : (x : Int) = es[i].parent
      · have HV : Hid (onPath es[i].parent S = true) := hid (by rw [HS.out.2, onPath_cons]; simp [he])
        have b1 : ((x : Int) == es[i].parent) = true := beq_iff_eq.2 he
        clear he
        go_wp2
        go_ret
        exact ⟨by rw [HV.out]; rfl, rfl⟩
      · have HV : Hid (Chain es r ∧ onPath es[i].parent S = onPath es[i].parent r) := hid ⟨hct, by rw [HS.out.2, onPath_cons]; simp [he]⟩
        have b1 : ((x : Int) == es[i].parent) = false := beq_eq_false_iff_ne.2 he
        clear he hct
        go_wp2
        exact ⟨⟨r, rfl, HV⟩, by simp [intOf]; omega⟩
set_option maxRecDepth 100000 in
set_option maxHeartbeats 1000000 in
theorem specDeep (B : Nat) (es : List ElemD) (v : Value) (S : List Nat) (w : World) (hl : es.length ≤ 40) (hc : Chain es S) (h8 : S.length ≤ 49) (ha : ElemsAt w B v es) :
    Calls Tryz.prog 30 #[v, .int .i64 (top S)] w fun e w' => e = .returned (.int .i64 (S.length : Int)) ∧ w' = w := by
  obtain ⟨a, cap, rfl⟩ := ha.slice
  have HA := hid ha
  have HC := hid hc
  clear ha hc
  go_enter Tryz.func30, Tryz.ntmps30
  go_wp2
  go_loop [1, 5] (fun x y => ∃ (S' : List Nat) (n : Nat), x = .int .i64 (top S') ∧ y = .int .i64 (n : Int) ∧ n + S'.length = S.length ∧ Hid (Chain es S')) (fun x _ => (intOf x + 1).toNat)
  case atStart => exact ⟨S, 0, rfl, rfl, by omega, HC.out⟩
  case round =>
    obtain ⟨S', n, rfl, rfl, hn, HS⟩ := hrel
    cases S' with
    | nil =>
      have hn' : n = S.length := by simpa using hn
      subst hn'
      have q2 : ¬ (0 : Int) ≤ top [] := by decide
      go_wp2
      go_ret
      exact ⟨rfl, rfl⟩
    | cons x r =>
      obtain ⟨hx, hp⟩ := chain_get HS.out
      have htl := top_lt HS.out
      have htg := top_ge r
      have hct := hid (chain_tail HS.out)
      obtain ⟨g', o', vx, e', hg', c0, c1, c2, _⟩ := HA.out.at hx
      cases e'
      rw [hp] at c1
      clear c0 c2
      have ht : top (x :: r) = (x : Int) := rfl
      rw [ht]
      simp only [List.length_cons] at hn
      have q2 : (0 : Int) ≤ (x : Int) := by omega
      have q3 : (x : Int) < (es.length : Int) := by omega
      have q4 : (n : Int) < 50 := by omega
      go_wp2
      exact ⟨⟨r, n + 1, rfl, by go_num, by omega, hct⟩, by simp [intOf]; omega⟩
end Tr
end Go.Proofs.YtahkpgffoiaeiaaGreatDoor
