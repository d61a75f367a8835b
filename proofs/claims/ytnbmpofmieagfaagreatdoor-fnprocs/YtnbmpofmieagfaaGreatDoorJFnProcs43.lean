/- Steps that a function has made itself: a row of them, and two rows of nodes for each, in blocks of their own. -/
import Derived.Test.YtnbmpofmieagfaaGreatDoorJFnProcs12
import Derived.Test.YtnbmpofmieagfaaGreatDoorJFnProcs11
import Derived.Test.YtnbmpofmieagfaaGreatDoorJFnProcs2
import Derived.RangeFuncBox
import Derived.Maps.AppendAt
namespace Go.Proofs.YtnbmpofmieagfaaGreatDoor
open Go.RowKit
set_option linter.unusedVariables false
namespace So
open Ex (nval nvals nvals_len nvals_snoc nvals_get)
open Nd (NodeD)
open St (StepD)
open Nst (own)
def SJ (ss : List StepD) (i : Nat) : StepD := ss[i]?.getD ⟨0, 0, ByteArray.empty, 0, [], []⟩
theorem SJ_eq {ss : List StepD} {i : Nat} (h : i < ss.length) : SJ ss i = ss[i] := by unfold SJ; rw [List.getElem?_eq_getElem h, Option.getD_some]
theorem SJ_left {ss : List StepD} {x : StepD} {i : Nat} (h : i < ss.length) : SJ (ss ++ [x]) i = SJ ss i := by unfold SJ; rw [List.getElem?_append_left h]
theorem SJ_last (ss : List StepD) (x : StepD) : SJ (ss ++ [x]) ss.length = x := by unfold SJ; simp
def scell (s : StepD) (vc ve : Value) : List Value := [.int .i64 s.kind, .int .i64 s.parent, .string s.name, .int .i64 s.arg, vc, ve]
def nsub (v : Value) (l : List NodeD) : Nst.Sub := ⟨110, 4, v, l.length, nvals l⟩
abbrev subs (ss : List StepD) (C E : Nat → Value) : Nat → Nst.Sub := fun i => if i % 2 = 0 then nsub (C (i / 2)) (SJ ss (i / 2)).cond else nsub (E (i / 2)) (SJ ss (i / 2)).expr
abbrev SAt (w : World) (B : Nat) (v : Value) (ss : List StepD) (C E : Nat → Value) : Prop := Nst.At w B 53 6 v ss.length (fun j => scell (SJ ss j) (C j) (E j)) (2 * ss.length) (subs ss C E)
def SOwn (w : World) (B : Nat) (v : Value) (ss : List StepD) : Prop := ∃ C E, SAt w B v ss C E
theorem SOwn.below {w w' : World} {B : Nat} {v : Value} {ss : List StepD} (h : SOwn w B v ss) (hb : Below w.heap.size w w') : SOwn w' B v ss := by
  obtain ⟨C, E, h⟩ := h; exact ⟨C, E, h.below hb⟩
theorem SOwn.keep {w w' : World} {B : Nat} {v : Value} {ss : List StepD} (h : SOwn w B v ss) (hb : ∀ b, B ≤ b → b < w.heap.size → w'.heap[b]? = w.heap[b]?) : SOwn w' B v ss := by
  obtain ⟨C, E, h⟩ := h; exact ⟨C, E, h.keep hb⟩
theorem SOwn.mono {w : World} {B B' : Nat} {v : Value} {ss : List StepD} (h : SOwn w B v ss) (hb : B' ≤ B) : SOwn w B' v ss := by
  obtain ⟨C, E, h⟩ := h; exact ⟨C, E, h.mono hb⟩
theorem SOwn.nil (w : World) (B : Nat) : SOwn w B (.slice none 0 0) [] := ⟨fun _ => .slice none 0 0, fun _ => .slice none 0 0, Nst.At.nil _ _ _ _ _ _⟩
theorem SOwn.slice {w : World} {B : Nat} {v : Value} {ss : List StepD} (h : SOwn w B v ss) : ∃ a cap, v = .slice a ss.length cap := by
  obtain ⟨C, E, h⟩ := h; exact Nst.own_slice h.row
theorem nodes_own {w : World} {B : Nat} {v : Value} {l : List NodeD} (h : w.ownsRow B 110 4 v l.length (nvals l)) : Nd.At w B v l := by
  rcases Nat.eq_zero_or_pos l.length with h0 | h0
  · have e : l = [] := List.eq_nil_of_length_eq_zero h0
    subst e
    rcases h.2 with ⟨rfl, _⟩ | ⟨g, cap, cur, rfl, _, _, _, hm, _⟩
    · exact ⟨_, _, rfl, Nat.le_refl _, Nat.zero_le _, .inl rfl⟩
    · exact ⟨_, _, rfl, Nat.zero_le _, hm, .inl rfl⟩
  · obtain ⟨g, cap, rfl, hB, hg, hc, hm⟩ := Nst.own_some h h0
    refine ⟨_, _, rfl, hc, hm, .inr ⟨g, 0, rfl, hB, hg, fun i hi => ?_⟩⟩
    have h0 := h.cellAt (i * 4) (by omega)
    have h1 := h.cellAt (i * 4 + 1) (by omega)
    have h2 := h.cellAt (i * 4 + 2) (by omega)
    have h3 := h.cellAt (i * 4 + 3) (by omega)
    have h4 := nvals_get l i hi
    rw [Nat.zero_add]
    exact ⟨h0.trans h4.1, h1.trans h4.2.1, h2.trans h4.2.2.1, h3.trans h4.2.2.2⟩
theorem sub_even (ss : List StepD) (C E : Nat → Value) (j : Nat) : subs ss C E (2 * j) = nsub (C j) (SJ ss j).cond := by
  have h1 : 2 * j % 2 = 0 := by omega
  have h2 : 2 * j / 2 = j := by omega
  simp only [subs, h1, h2, if_true]
theorem sub_odd (ss : List StepD) (C E : Nat → Value) (j : Nat) : subs ss C E (2 * j + 1) = nsub (E j) (SJ ss j).expr := by
  have h1 : ¬ (2 * j + 1) % 2 = 0 := by omega
  have h2 : (2 * j + 1) / 2 = j := by omega
  simp only [subs, h1, h2, if_false]
theorem SAt.cond {w : World} {B : Nat} {v : Value} {ss : List StepD} {C E : Nat → Value} (h : SAt w B v ss C E) {j : Nat} (hj : j < ss.length) : w.ownsRow B 110 4 (C j) ss[j].cond.length (nvals ss[j].cond) := by
  have h1 := h.sub (2 * j) (by omega)
  rw [sub_even, SJ_eq hj] at h1
  exact h1
theorem SAt.expr {w : World} {B : Nat} {v : Value} {ss : List StepD} {C E : Nat → Value} (h : SAt w B v ss C E) {j : Nat} (hj : j < ss.length) : w.ownsRow B 110 4 (E j) ss[j].expr.length (nvals ss[j].expr) := by
  have h1 := h.sub (2 * j + 1) (by omega)
  rw [sub_odd, SJ_eq hj] at h1
  exact h1
theorem scell_len (s : StepD) (vc ve : Value) : (scell s vc ve).length = 6 := rfl
theorem SOwn.steps {w : World} {B : Nat} {v : Value} {ss : List StepD} (h : SOwn w B v ss) : St.At w B v ss := by
  obtain ⟨C, E, h⟩ := h
  rcases Nat.eq_zero_or_pos ss.length with h0 | h0
  · have e : ss = [] := List.eq_nil_of_length_eq_zero h0
    subst e
    rcases h.row.2 with ⟨rfl, _⟩ | ⟨g, cap, cur, rfl, _, _, _, hm, _⟩
    · exact ⟨_, _, rfl, Nat.le_refl _, Nat.zero_le _, .inl rfl⟩
    · exact ⟨_, _, rfl, Nat.zero_le _, hm, .inl rfl⟩
  · obtain ⟨g, cap, rfl, hB, hg, hc, hm⟩ := Nst.own_some h.row h0
    refine ⟨_, _, rfl, hc, hm, .inr ⟨g, 0, rfl, hB, hg, fun i hi => ?_⟩⟩
    have hl : ∀ j, j < ss.length → (scell (SJ ss j) (C j) (E j)).length = 6 := fun j _ => rfl
    have c0 := h.cell hl hi (i := 0) (by omega)
    have c1 := h.cell hl hi (i := 1) (by omega)
    have c2 := h.cell hl hi (i := 2) (by omega)
    have c3 := h.cell hl hi (i := 3) (by omega)
    have c4 := h.cell hl hi (i := 4) (by omega)
    have c5 := h.cell hl hi (i := 5) (by omega)
    rw [SJ_eq hi] at c0 c1 c2 c3 c4 c5
    rw [Nat.zero_add]
    exact ⟨c0, c1, c2, c3, C i, E i, c4, c5, nodes_own (SAt.cond h hi), nodes_own (SAt.expr h hi)⟩
/-- A step behind all others: its rows of nodes are newer than all that is there. -/
theorem push_at {w0 w w2 : World} {B : Nat} {v v' vc ve : Value} {ss : List StepD} {x : StepD} {C E : Nat → Value} (h : SAt w0 B v ss C E) (hB : B ≤ w0.heap.size) (hb : ∀ b, B ≤ b → b < w0.heap.size → w.heap[b]? = w0.heap[b]?) (hsz : w0.heap.size ≤ w.heap.size)
    (hc : w.ownsRow w0.heap.size 110 4 vc x.cond.length (nvals x.cond)) (he : w.ownsRow w0.heap.size 110 4 ve x.expr.length (nvals x.expr)) (hce : ∀ b, own vc b → ¬ own ve b)
    (hown : w2.ownsRow B 53 6 v' (ss.length + 1) (Nst.flat (fun j => scell (SJ ss j) (C j) (E j)) ss.length ++ scell x vc ve))
    (hg : w.grownBy w2 v.ownBlock) (hat : v'.ownBlock = v.ownBlock ∨ v'.ownBlock = some w.heap.size) : SOwn w2 B v' (ss ++ [x]) := by
  have h1 := h.keep hb
  have hvc : ∀ b, own vc b → w0.heap.size ≤ b := fun b hb => (Nst.own_lt hc hb).1
  have hve : ∀ b, own ve b → w0.heap.size ≤ b := fun b hb => (Nst.own_lt he hb).1
  let t : Nat → Nst.Sub := fun i => if i = 0 then nsub vc x.cond else nsub ve x.expr
  have ht : ∀ i, ∀ b, own (t i).v b → w0.heap.size ≤ b := fun i b hb => by
    by_cases e : i = 0
    · simp only [t, e, if_true] at hb; exact hvc b hb
    · simp only [t, e, if_false] at hb; exact hve b hb
  have hp := h1.push (p := 2) (t := t) (fun i _ => by
      by_cases e : i = 0
      · simp only [t, e, if_true]; exact Nst.own_mono hc hB
      · simp only [t, e, if_false]; exact Nst.own_mono he hB)
    (fun i j hi hj hij b hb1 hb2 => by
      have : (i = 0 ∧ j = 1) ∨ (i = 1 ∧ j = 0) := by omega
      rcases this with ⟨rfl, rfl⟩ | ⟨rfl, rfl⟩
      · exact hce b hb1 hb2
      · exact hce b hb2 hb1)
    (fun i j hi _ b e1 e2 => by have := (Nst.own_lt (h.sub i hi) e1).2; have := ht j b e2; omega)
    (fun i _ b e1 e2 => by have := (Nst.own_lt h.row e2).2; have := ht i b e1; omega) hown hg hat
  refine ⟨fun j => if j = ss.length then vc else C j, fun j => if j = ss.length then ve else E j, ?_⟩
  unfold SAt
  rw [List.length_append]
  have hl : 2 * (ss.length + [x].length) = 2 * ss.length + 2 := by simp; omega
  rw [hl]
  refine hp.congr (fun j hj => ?_) (fun i hi => ?_)
  · by_cases e : j = ss.length
    · subst e
      simp only [if_true, SJ_last]
    · have hl : j < ss.length := Nat.lt_of_le_of_ne (Nat.le_of_lt_succ hj) e
      simp only [e, if_false, SJ_left hl]
  · by_cases e : i < 2 * ss.length
    · have e2 : i / 2 < ss.length := by omega
      have e3 : ¬ i / 2 = ss.length := by omega
      simp only [subs, e, if_true, e3, if_false, SJ_left e2]
    · have e2 : i / 2 = ss.length := by omega
      have e4 : i = 2 * ss.length ∨ i = 2 * ss.length + 1 := by omega
      rcases e4 with rfl | rfl
      · have e5 : 2 * ss.length % 2 = 0 := by omega
        have e6 : 2 * ss.length - 2 * ss.length = 0 := by omega
        simp only [subs, e, if_false, e2, if_true, SJ_last, e5, t, e6]
      · have e5 : ¬ (2 * ss.length + 1) % 2 = 0 := by omega
        have e6 : ¬ (2 * ss.length + 1 - 2 * ss.length = 0) := by omega
        simp only [subs, e, if_false, e2, if_true, SJ_last, e5, t, e6]
/-- The step with another condition. -/
def withCond (ss : List StepD) (j : Nat) (l : List NodeD) : List StepD := ss.set j { SJ ss j with cond := l }
theorem withCond_len (ss : List StepD) (j : Nat) (l : List NodeD) : (withCond ss j l).length = ss.length := by simp [withCond]
theorem withCond_J {ss : List StepD} {j : Nat} (hj : j < ss.length) (l : List NodeD) (i : Nat) : SJ (withCond ss j l) i = if i = j then { SJ ss j with cond := l } else SJ ss i := by
  unfold withCond
  by_cases e : i = j
  · subst e
    rw [if_pos rfl]
    unfold SJ
    rw [List.getElem?_set_self hj, Option.getD_some]
  · rw [if_neg e]
    unfold SJ
    rw [List.getElem?_set_ne (fun e2 => e e2.symm)]
/-- A condition is put into a step: a row of nodes that is newer than all that is there. -/
theorem cond_at {w0 w : World} {B g cap j : Nat} {vc : Value} {ss : List StepD} {l : List NodeD} {C E : Nat → Value} (h : SAt w0 B (.slice (some ⟨g, 0, none⟩) ss.length cap) ss C E) (hB : B ≤ w0.heap.size) (hj : j < ss.length) (hb : ∀ b, B ≤ b → b < w0.heap.size → w.heap[b]? = w0.heap[b]?)
    (hc : w.ownsRow w0.heap.size 110 4 vc l.length (nvals l)) : SOwn (w.setCell ⟨g, j * 6 + 4, none⟩ vc) B (.slice (some ⟨g, 0, none⟩) ss.length cap) (withCond ss j l) := by
  have h1 := h.keep hb
  have hvc : ∀ b, own vc b → w0.heap.size ≤ b := fun b hb => (Nst.own_lt hc hb).1
  have hgl := (Nst.own_lt h.row (b := g) rfl).2
  have h2 := h1.setRow (fun j _ => scell_len _ _ _) hj (i := 4) (by omega) vc
  have hc2 : (w.setCell ⟨g, j * 6 + 4, none⟩ vc).ownsRow w0.heap.size 110 4 vc l.length (nvals l) := ownsRow_setCell_below hc (a := ⟨g, j * 6 + 4, none⟩) hgl _
  refine ⟨fun i => if i = j then vc else C i, E, ?_⟩
  unfold SAt
  rw [withCond_len]
  refine ⟨?_, fun i hi => ?_, fun i k hi hk hik b => ?_, fun i hi b => ?_⟩
  · have h3 := h2.row
    rw [Nst.flat_congr (g := fun i => scell (SJ (withCond ss j l) i) (if i = j then vc else C i) (E i)) (fun i hi => by
      rw [withCond_J hj]
      by_cases e : i = j
      · subst e; simp [scell]
      · simp [e, scell])] at h3
    exact h3
  · by_cases e : i = 2 * j
    · subst e
      have e1 : 2 * j % 2 = 0 := by omega
      have e2 : 2 * j / 2 = j := by omega
      simp only [subs, e1, e2, if_true, withCond_J hj]
      exact Nst.own_mono hc2 hB
    · have h3 := h2.sub i hi
      have e3 : subs (withCond ss j l) (fun i => if i = j then vc else C i) E i = subs ss C E i := by
        by_cases p : i % 2 = 0
        · have e4 : ¬ i / 2 = j := by omega
          simp only [subs, p, if_true, e4, if_false, withCond_J hj]
        · simp only [subs, p, if_false, withCond_J hj]
          by_cases e4 : i / 2 = j
          · simp only [e4, if_true]
          · simp only [e4, if_false]
      rw [e3]
      exact h3
  · have hv : ∀ i, i < 2 * ss.length → (subs (withCond ss j l) (fun i => if i = j then vc else C i) E i).v = if i = 2 * j then vc else (subs ss C E i).v := fun i hi => by
      by_cases e : i = 2 * j
      · subst e
        have e1 : 2 * j % 2 = 0 := by omega
        have e2 : 2 * j / 2 = j := by omega
        simp only [subs, e1, e2, if_true, nsub]
      · simp only [e, if_false]
        by_cases p : i % 2 = 0
        · have e4 : ¬ i / 2 = j := by omega
          simp only [subs, p, if_true, e4, if_false, nsub]
        · simp only [subs, p, if_false, nsub]
    rw [hv i hi, hv k hk]
    by_cases e1 : i = 2 * j
    · have e2 : ¬ k = 2 * j := by omega
      simp only [e1, e2, if_true, if_false]
      intro a1 a2
      have := (Nst.own_lt (h.sub k hk) a2).2
      have := hvc b a1
      omega
    · by_cases e2 : k = 2 * j
      · simp only [e1, e2, if_true, if_false]
        intro a1 a2
        have := (Nst.own_lt (h.sub i hi) a1).2
        have := hvc b a2
        omega
      · simp only [e1, e2, if_false]
        exact h.sep i k hi hk hik b
  · by_cases e : i = 2 * j
    · subst e
      have e1 : 2 * j % 2 = 0 := by omega
      have e2 : 2 * j / 2 = j := by omega
      simp only [subs, e1, e2, if_true, nsub]
      intro a1 a2
      have := (Nst.own_lt h.row a2).2
      have := hvc b a1
      omega
    · have hv : (subs (withCond ss j l) (fun i => if i = j then vc else C i) E i).v = (subs ss C E i).v := by
        by_cases p : i % 2 = 0
        · have e4 : ¬ i / 2 = j := by omega
          simp only [subs, p, if_true, e4, if_false, nsub]
        · simp only [subs, p, if_false, nsub]
      rw [hv]
      exact h.sepv i hi b
theorem infoStep : (Tryz.prog.info? 53).map (fun i => (i.zero, i.size, i.bytes)) = some (some (Value.agg #[.int .i64 0, .int .i64 0, .string { data := #[] }, .int .i64 0, .slice none 0 0, .slice none 0 0]), 6, 88) := by kernel_rfl
theorem news {w : World} (cs : Array Value) (t : TypeId) (b : Nat) (hb : b = w.heap.size) : ∀ j u, cs.toList[j]? = some u → (w.alloc (.cells cs t)).cell? ((⟨b, 0, none⟩ : Addr).add j) = some u := by
  subst hb
  intro j u hj
  rw [Go.WideShapes.add_plain]
  simp only [Nat.zero_add, World.cell?_alloc_new]
  simpa using hj
end So
end Go.Proofs.YtnbmpofmieagfaaGreatDoor
