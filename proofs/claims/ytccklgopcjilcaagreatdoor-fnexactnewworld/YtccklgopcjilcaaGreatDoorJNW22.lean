/- Laid together: EoA, ApA, Shelf. -/
import Derived.Test.YtccklgopcjilcaaGreatDoorJNW12
import Derived.Test.YtccklgopcjilcaaGreatDoorJNW17
import Derived.Test.YtccklgopcjilcaaGreatDoorJNW21
import Derived.Test.YtccklgopcjilcaaGreatDoorProg
import Derived.Deep.AppendLies
import Derived.Deep.Upon
import Derived.Laws.OwnMore
import Derived.Shelf.Small.Bits
import Derived.Shelf.Strconv.Itoa0
import Derived.Shelf.LaysM
import Derived.Shelf.Strconv.Clone
/- An engine that a function has made itself: two rows, and what hangs on them, each copy between two blocks of its own. -/
namespace Go.Proofs.YtccklgopcjilcaaGreatDoor
open Go.RowKit Go.Deep
set_option linter.unusedVariables false
namespace Eo
open Ex (hid)
open Nst (own flat own_lt own_kept own_mono)
open So (SOwn SAt SJ subs)
open St (StepD)
open Ei (InstD)
open En (EngD)
/-- Steps that lie between two blocks. -/
structure PIn (w : World) (lo hi : Nat) (v : Value) (ss : List StepD) (C E : Nat → Value) : Prop where
  at' : SAt w lo v ss C E
  row : ∀ b, own v b → b < hi
  sub : ∀ j, j < ss.length → ∀ b, own (C j) b ∨ own (E j) b → b < hi
theorem PIn.of {w : World} {lo : Nat} {v : Value} {ss : List StepD} {C E : Nat → Value} (h : SAt w lo v ss C E) : PIn w lo w.heap.size v ss C E :=
  ⟨h, fun b hb => (own_lt h.row hb).2, fun j hj b hb => by rcases hb with hb | hb; exact (own_lt (So.SAt.cond h hj) hb).2; exact (own_lt (So.SAt.expr h hj) hb).2⟩
theorem sub_v {ss : List StepD} {C E : Nat → Value} {i b : Nat} (h : own (subs ss C E i).v b) : own (C (i / 2)) b ∨ own (E (i / 2)) b := by
  by_cases e : i % 2 = 0
  · simp only [subs, e, if_true] at h; exact .inl h
  · simp only [subs, e, if_false] at h; exact .inr h
theorem PIn.kept {w w' : World} {lo hi : Nat} {v : Value} {ss : List StepD} {C E : Nat → Value} (h : PIn w lo hi v ss C E) (hb : ∀ b, lo ≤ b → b < hi → b < w.heap.size → w'.heap[b]? = w.heap[b]?) : PIn w' lo hi v ss C E :=
  ⟨h.at'.kept (fun b hv => hb b (own_lt h.at'.row hv).1 (h.row b hv) (own_lt h.at'.row hv).2) (fun i hi b hs => hb b (own_lt (h.at'.sub i hi) hs).1 (h.sub (i / 2) (by omega) b (sub_v hs)) (own_lt (h.at'.sub i hi) hs).2), h.row, h.sub⟩
theorem PIn.steps {w : World} {lo hi : Nat} {v : Value} {ss : List StepD} {C E : Nat → Value} (h : PIn w lo hi v ss C E) : St.At w lo v ss := So.SOwn.steps ⟨C, E, h.at'⟩
def IJ (is : List InstD) (j : Nat) : InstD := is[j]?.getD ⟨0, 0, 0, [], [], []⟩
theorem IJ_eq {is : List InstD} {j : Nat} (h : j < is.length) : IJ is j = is[j] := by unfold IJ; rw [List.getElem?_eq_getElem h, Option.getD_some]
def PJs (ps : List (List StepD)) (j : Nat) : List StepD := ps[j]?.getD []
theorem PJs_eq {ps : List (List StepD)} {j : Nat} (h : j < ps.length) : PJs ps j = ps[j] := by unfold PJs; rw [List.getElem?_eq_getElem h, Option.getD_some]
def icell (i : InstD) (v1 v2 v3 : Value) : List Value := [.int .i64 i.proc, .int .i64 i.chart.status, .int .i64 i.chart.now, v1, v2, v3]
/-- A row of processes, each between two blocks. -/
structure PRow (w : World) (B : Nat) (v : Value) (ps : List (List StepD)) (pv : Nat → Value) (C E : Nat → Nat → Value) (lo hi : Nat → Nat) : Prop where
  row : w.ownsRow B 89 1 v ps.length (flat (fun j => [pv j]) ps.length)
  pin : ∀ j, j < ps.length → PIn w (lo j) (hi j) (pv j) (PJs ps j) (C j) (E j)
  base : ∀ j, j < ps.length → B ≤ lo j ∧ hi j ≤ w.heap.size
  sep : ∀ i j, i < ps.length → j < ps.length → i ≠ j → hi i ≤ lo j ∨ hi j ≤ lo i
  out : ∀ b, own v b → ∀ j, j < ps.length → b < lo j ∨ hi j ≤ b
/-- A row of instances, each chart between two blocks. -/
structure IRow (w : World) (B : Nat) (v : Value) (is : List InstD) (u1 u2 u3 : Nat → Value) (lo hi : Nat → Nat) : Prop where
  row : w.ownsRow B 114 6 v is.length (flat (fun j => icell (IJ is j) (u1 j) (u2 j) (u3 j)) is.length)
  iin : ∀ j, j < is.length → IIn w (lo j) (hi j) (u1 j) (u2 j) (u3 j) (IJ is j).chart
  base : ∀ j, j < is.length → B ≤ lo j ∧ hi j ≤ w.heap.size
  sep : ∀ i j, i < is.length → j < is.length → i ≠ j → hi i ≤ lo j ∨ hi j ≤ lo i
  out : ∀ b, own v b → ∀ j, j < is.length → b < lo j ∨ hi j ≤ b
theorem PRow.kept {w w' : World} {B : Nat} {v : Value} {ps : List (List StepD)} {pv : Nat → Value} {C E : Nat → Nat → Value} {lo hi : Nat → Nat} (h : PRow w B v ps pv C E lo hi) (hs : w.heap.size ≤ w'.heap.size)
    (hb : ∀ b, own v b ∨ (∃ j, j < ps.length ∧ lo j ≤ b ∧ b < hi j) → b < w.heap.size → w'.heap[b]? = w.heap[b]?) : PRow w' B v ps pv C E lo hi :=
  ⟨own_kept h.row (fun b e => hb b (.inl e) (own_lt h.row e).2), fun j hj => (h.pin j hj).kept (fun b h1 h2 h3 => hb b (.inr ⟨j, hj, h1, h2⟩) h3), fun j hj => ⟨(h.base j hj).1, Nat.le_trans (h.base j hj).2 hs⟩, h.sep, h.out⟩
theorem IRow.kept {w w' : World} {B : Nat} {v : Value} {is : List InstD} {u1 u2 u3 : Nat → Value} {lo hi : Nat → Nat} (h : IRow w B v is u1 u2 u3 lo hi) (hs : w.heap.size ≤ w'.heap.size)
    (hb : ∀ b, own v b ∨ (∃ j, j < is.length ∧ lo j ≤ b ∧ b < hi j) → b < w.heap.size → w'.heap[b]? = w.heap[b]?) : IRow w' B v is u1 u2 u3 lo hi :=
  ⟨own_kept h.row (fun b e => hb b (.inl e) (own_lt h.row e).2), fun j hj => (h.iin j hj).kept (fun b h1 h2 h3 => hb b (.inr ⟨j, hj, h1, h2⟩) h3), fun j hj => ⟨(h.base j hj).1, Nat.le_trans (h.base j hj).2 hs⟩, h.sep, h.out⟩
theorem PRow.in {w : World} {B : Nat} {v : Value} {ps : List (List StepD)} {pv : Nat → Value} {C E : Nat → Nat → Value} {lo hi : Nat → Nat} (h : PRow w B v ps pv C E lo hi) {b : Nat}
    (hb : own v b ∨ (∃ j, j < ps.length ∧ lo j ≤ b ∧ b < hi j)) : B ≤ b ∧ b < w.heap.size := by
  rcases hb with hb | ⟨j, hj, h1, h2⟩
  · exact own_lt h.row hb
  · have := h.base j hj; omega
theorem IRow.in {w : World} {B : Nat} {v : Value} {is : List InstD} {u1 u2 u3 : Nat → Value} {lo hi : Nat → Nat} (h : IRow w B v is u1 u2 u3 lo hi) {b : Nat}
    (hb : own v b ∨ (∃ j, j < is.length ∧ lo j ≤ b ∧ b < hi j)) : B ≤ b ∧ b < w.heap.size := by
  rcases hb with hb | ⟨j, hj, h1, h2⟩
  · exact own_lt h.row hb
  · have := h.base j hj; omega
theorem PRow.keep {w w' : World} {B : Nat} {v : Value} {ps : List (List StepD)} {pv : Nat → Value} {C E : Nat → Nat → Value} {lo hi : Nat → Nat} (h : PRow w B v ps pv C E lo hi) (hs : w.heap.size ≤ w'.heap.size)
    (hb : ∀ b, B ≤ b → b < w.heap.size → w'.heap[b]? = w.heap[b]?) : PRow w' B v ps pv C E lo hi := h.kept hs (fun b h1 h2 => hb b (h.in h1).1 h2)
theorem IRow.keep {w w' : World} {B : Nat} {v : Value} {is : List InstD} {u1 u2 u3 : Nat → Value} {lo hi : Nat → Nat} (h : IRow w B v is u1 u2 u3 lo hi) (hs : w.heap.size ≤ w'.heap.size)
    (hb : ∀ b, B ≤ b → b < w.heap.size → w'.heap[b]? = w.heap[b]?) : IRow w' B v is u1 u2 u3 lo hi := h.kept hs (fun b h1 h2 => hb b (h.in h1).1 h2)
theorem PRow.below {w w' : World} {B : Nat} {v : Value} {ps : List (List StepD)} {pv : Nat → Value} {C E : Nat → Nat → Value} {lo hi : Nat → Nat} (h : PRow w B v ps pv C E lo hi) (hb : Below w.heap.size w w') : PRow w' B v ps pv C E lo hi := h.keep hb.size (fun b _ h2 => hb.block b h2)
theorem IRow.below {w w' : World} {B : Nat} {v : Value} {is : List InstD} {u1 u2 u3 : Nat → Value} {lo hi : Nat → Nat} (h : IRow w B v is u1 u2 u3 lo hi) (hb : Below w.heap.size w w') : IRow w' B v is u1 u2 u3 lo hi := h.keep hb.size (fun b _ h2 => hb.block b h2)
theorem PRow.nil (w : World) (B : Nat) : PRow w B (.slice none 0 0) [] (fun _ => .slice none 0 0) (fun _ _ => .slice none 0 0) (fun _ _ => .slice none 0 0) (fun _ => 0) (fun _ => 0) :=
  ⟨World.ownsRow_nil w B _ _, fun j h => by simp at h, fun j h => by simp at h, fun i j h => by simp at h, fun b h => by cases h⟩
theorem IRow.nil (w : World) (B : Nat) : IRow w B (.slice none 0 0) [] (fun _ => .slice none 0 0) (fun _ => .slice none 0 0) (fun _ => .slice none 0 0) (fun _ => 0) (fun _ => 0) :=
  ⟨World.ownsRow_nil w B _ _, fun j h => by simp at h, fun j h => by simp at h, fun i j h => by simp at h, fun b h => by cases h⟩
/-- What the two rows of an engine are, as a list of values reads. -/
theorem PRow.at' {w : World} {B : Nat} {v : Value} {ps : List (List StepD)} {pv : Nat → Value} {C E : Nat → Nat → Value} {lo hi : Nat → Nat} (h : PRow w B v ps pv C E lo hi) : Ep.At w B v ps := by
  rcases Nat.eq_zero_or_pos ps.length with h0 | h0
  · obtain ⟨a, cap, rfl⟩ := Nst.own_slice h.row
    have e : ps = [] := List.eq_nil_of_length_eq_zero h0
    subst e
    rcases h.row.2 with ⟨e1, _⟩ | ⟨g, c2, cur, e1, _, _, _, hm, _⟩
    · cases e1; exact Ep.At.nil w B
    · cases e1; exact ⟨_, _, rfl, Nat.zero_le _, hm, .inl rfl⟩
  · obtain ⟨g, cap, rfl, hB, hg, hc, hm⟩ := Nst.own_some h.row h0
    refine ⟨_, _, rfl, hc, hm, .inr ⟨g, 0, rfl, hB, hg, fun i hi => ⟨pv i, ?_, ?_⟩⟩⟩
    · have h1 := h.row.cellAt (i * 1) (by omega)
      have h2 := Nst.flat_get (f := fun j => [pv j]) (z := 1) (n := ps.length) (j := i) (c := 0) (fun _ _ => rfl) hi (by omega)
      rw [Nat.mul_one] at h1
      rw [Nat.mul_one, Nat.add_zero] at h2
      rw [Nat.zero_add, h1, h2]
      rfl
    · have := (h.pin i hi).steps
      rw [PJs_eq hi] at this
      exact this.mono (h.base i hi).1
theorem IRow.at' {w : World} {B : Nat} {v : Value} {is : List InstD} {u1 u2 u3 : Nat → Value} {lo hi : Nat → Nat} (h : IRow w B v is u1 u2 u3 lo hi) : Ei.At w B v is := by
  rcases Nat.eq_zero_or_pos is.length with h0 | h0
  · obtain ⟨a, cap, rfl⟩ := Nst.own_slice h.row
    have e : is = [] := List.eq_nil_of_length_eq_zero h0
    subst e
    rcases h.row.2 with ⟨e1, _⟩ | ⟨g, c2, cur, e1, _, _, _, hm, _⟩
    · cases e1; exact Ei.At.nil w B
    · cases e1; exact ⟨_, _, rfl, Nat.zero_le _, hm, .inl rfl⟩
  · obtain ⟨g, cap, rfl, hB, hg, hc, hm⟩ := Nst.own_some h.row h0
    refine ⟨_, _, rfl, hc, hm, .inr ⟨g, 0, rfl, hB, hg, fun i hi => ⟨u1 i, u2 i, u3 i, ?_⟩⟩⟩
    have key : ∀ c, c < 6 → w.cell? ⟨g, i * 6 + c, none⟩ = (icell is[i] (u1 i) (u2 i) (u3 i))[c]? := fun c hc => by
      have h2 := Nst.flat_get (f := fun j => icell (IJ is j) (u1 j) (u2 j) (u3 j)) (z := 6) (n := is.length) (j := i) (c := c) (fun _ _ => rfl) hi hc
      rw [h.row.cellAt (i * 6 + c) (by omega), h2, IJ_eq hi]
    have hin := (h.iin i hi).own.at'
    rw [IJ_eq hi] at hin
    rw [Nat.zero_add]
    exact ⟨key 0 (by omega), key 1 (by omega), key 2 (by omega), key 3 (by omega), key 4 (by omega), key 5 (by omega), hin.mono (h.base i hi).1⟩
theorem PJs_left {ps : List (List StepD)} {x : List StepD} {j : Nat} (h : j < ps.length) : PJs (ps ++ [x]) j = PJs ps j := by unfold PJs; rw [List.getElem?_append_left h]
theorem PJs_last (ps : List (List StepD)) (x : List StepD) : PJs (ps ++ [x]) ps.length = x := by unfold PJs; simp
theorem IJ_left {is : List InstD} {x : InstD} {j : Nat} (h : j < is.length) : IJ (is ++ [x]) j = IJ is j := by unfold IJ; rw [List.getElem?_append_left h]
theorem IJ_last (is : List InstD) (x : InstD) : IJ (is ++ [x]) is.length = x := by unfold IJ; simp
def upd {α : Type} (f : Nat → α) (n : Nat) (x : α) : Nat → α := fun i => if i = n then x else f i
theorem upd_at {α : Type} (f : Nat → α) (n : Nat) (x : α) : upd f n x n = x := if_pos rfl
theorem upd_ne {α : Type} (f : Nat → α) {n i : Nat} (x : α) (h : i ≠ n) : upd f n x i = f i := if_neg h
/-- A process behind all others: its copy is newer than the row. -/
theorem PRow.push {w0 w w2 : World} {B l : Nat} {v v' pn : Value} {ps : List (List StepD)} {x : List StepD} {pv : Nat → Value} {C E : Nat → Nat → Value} {lo hi : Nat → Nat} {c e : Nat → Value}
    (h : PRow w0 B v ps pv C E lo hi) (hB : B ≤ w0.heap.size) (hb : Below w0.heap.size w0 w) (hl : w0.heap.size ≤ l) (hx : PIn w l w.heap.size pn x c e)
    (hown : w2.ownsRow B 89 1 v' (ps.length + 1) (flat (fun j => [pv j]) ps.length ++ [pn])) (hg : w.grownBy w2 v.ownBlock) (hat : v'.ownBlock = v.ownBlock ∨ ∃ m, v'.ownBlock = some m ∧ w.heap.size ≤ m) :
    PRow w2 B v' (ps ++ [x]) (upd pv ps.length pn) (upd C ps.length c) (upd E ps.length e) (upd lo ps.length l) (upd hi ps.length w.heap.size) := by
  have hlen : (ps ++ [x]).length = ps.length + 1 := by simp
  have h1 := h.below hb
  have hsz := hb.size
  have hv : ∀ b, own v' b → own v b ∨ w.heap.size ≤ b := fun b e => by
    rcases hat with h2 | ⟨m, h2, h3⟩
    · exact .inl (by unfold own; rw [← h2]; exact e)
    · right; unfold own at e; rw [h2] at e; cases e; exact h3
  have keep : ∀ b, (∀ k, v.ownBlock = some k → b ≠ k) → b < w.heap.size → w2.heap[b]? = w.heap[b]? := fun b hk hb => hg.block b hb (fun e => hk b e.symm rfl)
  refine ⟨?_, fun j hj => ?_, fun j hj => ?_, fun i j hi hj hij => ?_, fun b hb' j hj => ?_⟩
  · rw [hlen, Nst.flat_succ]
    have : flat (fun j => [upd pv ps.length pn j]) ps.length = flat (fun j => [pv j]) ps.length := Nst.flat_congr (fun j hj => by rw [upd_ne _ _ (by omega)])
    rw [this]
    rw [upd_at]
    exact hown
  · rw [hlen] at hj
    by_cases e1 : j = ps.length
    · subst e1
      rw [upd_at, upd_at, upd_at, upd_at, upd_at, PJs_last]
      exact hx.kept (fun b hb1 hb2 hb3 => keep b (fun k hk e => by have := (own_lt h.row hk).2; omega) hb3)
    · rw [upd_ne _ _ e1, upd_ne _ _ e1, upd_ne _ _ e1, upd_ne _ _ e1, upd_ne _ _ e1, PJs_left (by omega)]
      exact (h1.pin j (by omega)).kept (fun b hb1 hb2 hb3 => keep b (fun k hk e => by have := h.out k hk j (by omega); omega) hb3)
  · rw [hlen] at hj
    have := hg.size
    by_cases e1 : j = ps.length
    · subst e1; rw [upd_at, upd_at]; omega
    · rw [upd_ne _ _ e1, upd_ne _ _ e1]; have := h.base j (by omega); omega
  · rw [hlen] at hi hj
    by_cases e1 : i = ps.length
    · subst e1
      rw [upd_at, upd_at, upd_ne _ _ (Ne.symm hij), upd_ne _ _ (Ne.symm hij)]
      have := h.base j (by omega); omega
    · by_cases e2 : j = ps.length
      · subst e2; rw [upd_at, upd_at, upd_ne _ _ e1, upd_ne _ _ e1]; have := h.base i (by omega); omega
      · rw [upd_ne _ _ e1, upd_ne _ _ e1, upd_ne _ _ e2, upd_ne _ _ e2]; exact h.sep i j (by omega) (by omega) hij
  · rw [hlen] at hj
    by_cases e1 : j = ps.length
    · subst e1; rw [upd_at, upd_at]
      rcases hv b hb' with h2 | h2
      · have := (own_lt h.row h2).2; omega
      · omega
    · rw [upd_ne _ _ e1, upd_ne _ _ e1]
      rcases hv b hb' with h2 | h2
      · exact h.out b h2 j (by omega)
      · have := (h1.base j (by omega)).2; omega
/-- An instance behind all others: its chart is newer than the row. -/
theorem IRow.push {w0 w w2 : World} {B l : Nat} {v v' n1 n2 n3 : Value} {is : List InstD} {x : InstD} {u1 u2 u3 : Nat → Value} {lo hi : Nat → Nat}
    (h : IRow w0 B v is u1 u2 u3 lo hi) (hB : B ≤ w0.heap.size) (hb : Below w0.heap.size w0 w) (hl : w0.heap.size ≤ l) (hx : IIn w l w.heap.size n1 n2 n3 x.chart)
    (hown : w2.ownsRow B 114 6 v' (is.length + 1) (flat (fun j => icell (IJ is j) (u1 j) (u2 j) (u3 j)) is.length ++ icell x n1 n2 n3)) (hg : w.grownBy w2 v.ownBlock) (hat : v'.ownBlock = v.ownBlock ∨ ∃ m, v'.ownBlock = some m ∧ w.heap.size ≤ m) :
    IRow w2 B v' (is ++ [x]) (upd u1 is.length n1) (upd u2 is.length n2) (upd u3 is.length n3) (upd lo is.length l) (upd hi is.length w.heap.size) := by
  have hlen : (is ++ [x]).length = is.length + 1 := by simp
  have h1 := h.below hb
  have hsz := hb.size
  have hv : ∀ b, own v' b → own v b ∨ w.heap.size ≤ b := fun b e => by
    rcases hat with h2 | ⟨m, h2, h3⟩
    · exact .inl (by unfold own; rw [← h2]; exact e)
    · right; unfold own at e; rw [h2] at e; cases e; exact h3
  have keep : ∀ b, (∀ k, v.ownBlock = some k → b ≠ k) → b < w.heap.size → w2.heap[b]? = w.heap[b]? := fun b hk hb => hg.block b hb (fun e => hk b e.symm rfl)
  refine ⟨?_, fun j hj => ?_, fun j hj => ?_, fun i j hi hj hij => ?_, fun b hb' j hj => ?_⟩
  · rw [hlen, Nst.flat_succ]
    have : flat (fun j => icell (IJ (is ++ [x]) j) (upd u1 is.length n1 j) (upd u2 is.length n2 j) (upd u3 is.length n3 j)) is.length = flat (fun j => icell (IJ is j) (u1 j) (u2 j) (u3 j)) is.length := Nst.flat_congr (fun j hj => by rw [upd_ne _ _ (by omega), upd_ne _ _ (by omega), upd_ne _ _ (by omega), IJ_left hj])
    rw [this]
    rw [upd_at, upd_at, upd_at, IJ_last]
    exact hown
  · rw [hlen] at hj
    by_cases e1 : j = is.length
    · subst e1
      rw [upd_at, upd_at, upd_at, upd_at, upd_at, IJ_last]
      exact hx.kept (fun b hb1 hb2 hb3 => keep b (fun k hk e => by have := (own_lt h.row hk).2; omega) hb3)
    · rw [upd_ne _ _ e1, upd_ne _ _ e1, upd_ne _ _ e1, upd_ne _ _ e1, upd_ne _ _ e1, IJ_left (by omega)]
      exact (h1.iin j (by omega)).kept (fun b hb1 hb2 hb3 => keep b (fun k hk e => by have := h.out k hk j (by omega); omega) hb3)
  · rw [hlen] at hj
    have := hg.size
    by_cases e1 : j = is.length
    · subst e1; rw [upd_at, upd_at]; omega
    · rw [upd_ne _ _ e1, upd_ne _ _ e1]; have := h.base j (by omega); omega
  · rw [hlen] at hi hj
    by_cases e1 : i = is.length
    · subst e1
      rw [upd_at, upd_at, upd_ne _ _ (Ne.symm hij), upd_ne _ _ (Ne.symm hij)]
      have := h.base j (by omega); omega
    · by_cases e2 : j = is.length
      · subst e2; rw [upd_at, upd_at, upd_ne _ _ e1, upd_ne _ _ e1]; have := h.base i (by omega); omega
      · rw [upd_ne _ _ e1, upd_ne _ _ e1, upd_ne _ _ e2, upd_ne _ _ e2]; exact h.sep i j (by omega) (by omega) hij
  · rw [hlen] at hj
    by_cases e1 : j = is.length
    · subst e1; rw [upd_at, upd_at]
      rcases hv b hb' with h2 | h2
      · have := (own_lt h.row h2).2; omega
      · omega
    · rw [upd_ne _ _ e1, upd_ne _ _ e1]
      rcases hv b hb' with h2 | h2
      · exact h.out b h2 j (by omega)
      · have := (h1.base j (by omega)).2; omega
/-- Rows of processes, told by what they are alone. -/
def POwn (w : World) (B : Nat) (v : Value) (ps : List (List StepD)) : Prop := ∃ pv C E lo hi, PRow w B v ps pv C E lo hi
def IOwn (w : World) (B : Nat) (v : Value) (is : List InstD) : Prop := ∃ u1 u2 u3 lo hi, IRow w B v is u1 u2 u3 lo hi
/-- An engine of one's own: what hangs on its processes and what hangs on its instances shares no block. -/
def EOwn (w : World) (B : Nat) (vp vi : Value) (e : EngD) : Prop := ∃ pv C E pl ph u1 u2 u3 il ih, PRow w B vp e.procs pv C E pl ph ∧ IRow w B vi e.insts u1 u2 u3 il ih ∧
  ∀ b, own vp b ∨ (∃ j, j < e.procs.length ∧ pl j ≤ b ∧ b < ph j) → ¬ (own vi b ∨ (∃ j, j < e.insts.length ∧ il j ≤ b ∧ b < ih j))
theorem EOwn.at' {w : World} {B : Nat} {vp vi : Value} {e : EngD} (h : EOwn w B vp vi e) : En.At w B vp vi e := by
  obtain ⟨_, _, _, _, _, _, _, _, _, _, h1, h2, _⟩ := h; exact ⟨h1.at', h2.at'⟩
theorem EOwn.keep {w w' : World} {B : Nat} {vp vi : Value} {e : EngD} (h : EOwn w B vp vi e) (hs : w.heap.size ≤ w'.heap.size) (hb : ∀ b, B ≤ b → b < w.heap.size → w'.heap[b]? = w.heap[b]?) : EOwn w' B vp vi e := by
  obtain ⟨pv, C, E, pl, ph, u1, u2, u3, il, ih, h1, h2, h3⟩ := h; exact ⟨pv, C, E, pl, ph, u1, u2, u3, il, ih, h1.keep hs hb, h2.keep hs hb, h3⟩
theorem EOwn.below {w w' : World} {B : Nat} {vp vi : Value} {e : EngD} (h : EOwn w B vp vi e) (hb : Below w.heap.size w w') : EOwn w' B vp vi e := h.keep hb.size (fun b _ hl => hb.block b hl)
theorem PRow.mono {w : World} {B B' : Nat} {v : Value} {ps : List (List StepD)} {pv : Nat → Value} {C E : Nat → Nat → Value} {lo hi : Nat → Nat} (h : PRow w B v ps pv C E lo hi) (hb : B' ≤ B) : PRow w B' v ps pv C E lo hi := ⟨own_mono h.row hb, h.pin, fun j hj => ⟨Nat.le_trans hb (h.base j hj).1, (h.base j hj).2⟩, h.sep, h.out⟩
theorem IRow.mono {w : World} {B B' : Nat} {v : Value} {is : List InstD} {u1 u2 u3 : Nat → Value} {lo hi : Nat → Nat} (h : IRow w B v is u1 u2 u3 lo hi) (hb : B' ≤ B) : IRow w B' v is u1 u2 u3 lo hi := ⟨own_mono h.row hb, h.iin, fun j hj => ⟨Nat.le_trans hb (h.base j hj).1, (h.base j hj).2⟩, h.sep, h.out⟩
theorem EOwn.mono {w : World} {B B' : Nat} {vp vi : Value} {e : EngD} (h : EOwn w B vp vi e) (hb : B' ≤ B) : EOwn w B' vp vi e := by
  obtain ⟨pv, C, E, pl, ph, u1, u2, u3, il, ih, h1, h2, h3⟩ := h; exact ⟨pv, C, E, pl, ph, u1, u2, u3, il, ih, h1.mono hb, h2.mono hb, h3⟩
end Eo
end Go.Proofs.YtccklgopcjilcaaGreatDoor
/- A row is appended to a row that is owned, be it empty or nil: one law, at an operation, at a plain region's list, at a step of a region that draws its order. -/
namespace Go.Proofs.YtccklgopcjilcaaGreatDoor
open Go.RowKit
set_option linter.unusedVariables false
namespace Ap
section
variable {P : Program}
/-- A row of m elements, as an argument: empty, nil, or its cells are there. -/
def Row (w : World) (size : Nat) (x : Value) (m : Nat) (news : List Value) : Prop :=
  ∃ a c, x = .slice a m c ∧ news.length = m * size ∧ (∀ u ∈ news, u.oneCell' = true) ∧ (m = 0 ∨ ∃ ad, a = some ad ∧ ∀ (j : Nat) u, news[j]? = some u → w.cell? (ad.add j) = some u)
theorem Row.kept {w w' : World} {size m : Nat} {x : Value} {news : List Value} (h : Row w size x m news) (hk : ∀ a u, w.cell? a = some u → w'.cell? a = some u) : Row w' size x m news := by
  obtain ⟨a, c, hx, hl, h1, h2⟩ := h
  refine ⟨a, c, hx, hl, h1, ?_⟩
  rcases h2 with h2 | ⟨ad, ha, hc⟩
  · exact .inl h2
  · exact .inr ⟨ad, ha, fun j u hu => hk _ _ (hc j u hu)⟩
theorem run_any (w : World) (t ty : TypeId) (base : Nat) (e : TypeId) (i : TypeInfo) (z : Value) (size bytes : Nat) (ht : P.underlying t = some (.slice e)) (hi : P.info? e = some i) (hz : i.zero = some z)
    (hsize : i.size = size) (hby : i.bytes = bytes) (hzs : z.cells.size = size) (hsz : 0 < size)
    (v : Value) (n : Nat) (xs : List Value) (hown : w.ownsRow base e size v n xs) (x : Value) (m : Nat) (news : List Value) (hr : Row w size x m news)
    (h63 : n + m ≤ maxLen) (hbytes : (n + m) * bytes ≤ 140737488355328) (hbase : base ≤ w.heap.size) (H : Nat) (hH : w.heap.size = H) :
    ∃ a' c' w', (Builtin.append_ #[t, t] ty #[v, x]).run P w = .ok (.slice a' (n + m) c') w' ∧ w'.ownsRow base e size (.slice a' (n + m) c') (n + m) (xs ++ news) ∧ w.grownBy w' v.ownBlock ∧ ((Value.slice a' (n + m) c').ownBlock = v.ownBlock ∨ (Value.slice a' (n + m) c').ownBlock = some H) := by
  obtain ⟨a, c, rfl, hl, h1, h2⟩ := hr
  by_cases hm : m = 0
  · subst hm
    obtain rfl : news = [] := List.eq_nil_of_length_eq_zero (by simpa using hl)
    have hs : Src P i.size t (.slice a 0 c) 0 [] w := by
      cases a with
      | none => exact Src.ofNil w ht c
      | some ad => exact Src.ofSlice w ht ad 0 c [] (by simp) (fun j u h => by simp at h) (fun u h => by simp at h)
    obtain ⟨bs, cp, rfl, hle⟩ : ∃ bs cp, v = .slice bs n cp ∧ n ≤ cp := by
      rcases hown.2 with ⟨rfl, rfl⟩ | ⟨g, cap, cur, rfl, _, _, hle, _⟩
      · exact ⟨none, 0, rfl, Nat.le_refl _⟩
      · exact ⟨_, _, rfl, hle⟩
    refine ⟨bs, cp, w, run_append_nothing (P := P) w t t ty e i ht hi bs n cp hle _ hs, ?_, ⟨rfl, rfl, rfl, Nat.le_refl _, fun _ _ _ => rfl⟩, .inl rfl⟩
    rw [List.append_nil]
    exact hown
  · rcases h2 with h2 | ⟨ad, rfl, hc⟩
    · exact absurd h2 hm
    · obtain ⟨g, cap, w', h3, h4, h5, h6, h7⟩ := run_append_lies (P := P) w t ty base e i z size bytes ht hi hz hsize hby hzs hsz v n xs hown ad m c news hl hc h1 (by omega) h63 hbytes hbase H hH
      refine ⟨some ⟨g, 0, none⟩, cap, w', h3, h4, h5, ?_⟩
      rcases h6 with h6 | h6
      · exact .inl h6.symm
      · right; show some g = _; rw [h6]
theorem wp_any (w : World) {o : Oper} {a : Act} {K : Act → World → Prop} {Q : Exit → Act → World → Prop} (s x : Operand) (t : TypeId)
    (ho : o.op = .call { callee := .builtin .append, args := #[s, x], argTypes := #[t, t] })
    (base : Nat) (e : TypeId) (i : TypeInfo) (z : Value) (size bytes : Nat) (ht : P.underlying t = some (.slice e)) (hi : P.info? e = some i) (hz : i.zero = some z)
    (hsize : i.size = size) (hby : i.bytes = bytes) (hzs : z.cells.size = size) (hsz : 0 < size)
    (v : Value) (n : Nat) (xs : List Value) (hs : a.eval s = v) (hown : w.ownsRow base e size v n xs) (xv : Value) (m : Nat) (news : List Value) (hx : a.eval x = xv) (hr : Row w size xv m news)
    (h63 : n + m ≤ maxLen) (hbytes : (n + m) * bytes ≤ 140737488355328) (hbase : base ≤ w.heap.size) (H : Nat) (hH : w.heap.size = H)
    (h : ∀ a' c' w', w'.ownsRow base e size (.slice a' (n + m) c') (n + m) (xs ++ news) → w.grownBy w' v.ownBlock → ((Value.slice a' (n + m) c').ownBlock = v.ownBlock ∨ (Value.slice a' (n + m) c').ownBlock = some H) → K (a.put o.dst (.slice a' (n + m) c')) w') : o.wp P a w K Q := by
  obtain ⟨a', c', w', hrn, h2, h3, h4⟩ := run_any (P := P) w t o.type base e i z size bytes ht hi hz hsize hby hzs hsz v n xs hown xv m news hr h63 hbytes hbase H hH
  unfold Oper.wp execOp
  simp only [ho, resolve, invoke, builtin, Sem.run_bind, Sem.run_pure, Result.andThen_ok, List.map_toArray, List.map_cons, List.map_nil, hs, hx, hrn]
  exact h a' c' w' h2 h3 h4
theorem wpList_any (w : World) {ops : Array Oper} {rest : List Oper} {o : Oper} {a : Act} {Q : Exit → Act → World → Prop} (hgd : o.guard = none) (s x : Operand) (t : TypeId)
    (ho : o.op = .call { callee := .builtin .append, args := #[s, x], argTypes := #[t, t] })
    (base : Nat) (e : TypeId) (i : TypeInfo) (z : Value) (size bytes : Nat) (ht : P.underlying t = some (.slice e)) (hi : P.info? e = some i) (hz : i.zero = some z)
    (hsize : i.size = size) (hby : i.bytes = bytes) (hzs : z.cells.size = size) (hsz : 0 < size)
    (v : Value) (n : Nat) (xs : List Value) (hs : a.eval s = v) (hown : w.ownsRow base e size v n xs) (xv : Value) (m : Nat) (news : List Value) (hx : a.eval x = xv) (hr : Row w size xv m news)
    (h63 : n + m ≤ maxLen) (hbytes : (n + m) * bytes ≤ 140737488355328) (hbase : base ≤ w.heap.size) (H : Nat) (hH : w.heap.size = H)
    (h : ∀ a' c' w', w'.ownsRow base e size (.slice a' (n + m) c') (n + m) (xs ++ news) → w.grownBy w' v.ownBlock → ((Value.slice a' (n + m) c').ownBlock = v.ownBlock ∨ (Value.slice a' (n + m) c').ownBlock = some H) → wpList P ops Q rest (a.put o.dst (.slice a' (n + m) c')) w') : wpList P ops Q (o :: rest) a w :=
  wpList_plain hgd fun _ hK => wp_any w s x t ho base e i z size bytes ht hi hz hsize hby hzs hsz v n xs hs hown xv m news hx hr h63 hbytes hbase H hH fun a' c' w' h2 h3 h4 => hK _ _ (h a' c' w' h2 h3 h4)
theorem step_any (w : World) {ops : Array Oper} {o : Oper} {a : Act} {K : Act → World → Prop} {Q : Exit → Act → World → Prop} {E : Prop} (hgd : o.guard = none) (s x : Operand) (t : TypeId)
    (ho : o.op = .call { callee := .builtin .append, args := #[s, x], argTypes := #[t, t] })
    (base : Nat) (e : TypeId) (i : TypeInfo) (z : Value) (size bytes : Nat) (ht : P.underlying t = some (.slice e)) (hi : P.info? e = some i) (hz : i.zero = some z)
    (hsize : i.size = size) (hby : i.bytes = bytes) (hzs : z.cells.size = size) (hsz : 0 < size)
    (v : Value) (n : Nat) (xs : List Value) (hs : a.eval s = v) (hown : w.ownsRow base e size v n xs) (xv : Value) (m : Nat) (news : List Value) (hx : a.eval x = xv) (hr : Row w size xv m news)
    (h63 : n + m ≤ maxLen) (hbytes : (n + m) * bytes ≤ 140737488355328) (hbase : base ≤ w.heap.size) (H : Nat) (hH : w.heap.size = H)
    (h : ∀ a' c' w', w'.ownsRow base e size (.slice a' (n + m) c') (n + m) (xs ++ news) → w.grownBy w' v.ownBlock → ((Value.slice a' (n + m) c').ownBlock = v.ownBlock ∨ (Value.slice a' (n + m) c').ownBlock = some H) → K (a.put o.dst (.slice a' (n + m) c')) w') :
    if Region.wanted o (yielded ops a.tmps) = true then Oper.wp P o a w K Q else E := by
  have hw : Region.wanted o (yielded ops a.tmps) = true := by simp [Region.wanted, hgd]
  rw [if_pos hw]
  exact wp_any w s x t ho base e i z size bytes ht hi hz hsize hby hzs hsz v n xs hs hown xv m news hx hr h63 hbytes hbase H hH h
end
end Ap
end Go.Proofs.YtccklgopcjilcaaGreatDoor
/- The contracts of the library that this seat uses, laid at its program: each is one application of a theorem of the given library. -/
namespace Go.Proofs.YtccklgopcjilcaaGreatDoor
open Go.Shelf
def Tryz.laysM316_ren : Go.Shelf.Ren := ⟨fun | 316 => 238 | n => n, fun | 9 => 9 | 3 => 3 | 4 => 4 | 37 => 31 | 0 => 0 | 127 => 331 | 5 => 5 | n => n, fun | n => n⟩
theorem Tryz.laysM316 : Go.Proofs.LaysM.n316 Tryz.prog Tryz.laysM316_ren := {
  mixed := by kernel_rfl
  f316 := Tryz.func238.trans (congrArg some (by kernel_rfl))
  t0 := Tryz.underlying0
  a0 := Tryz.isAgg0
  z0 := Tryz.sizeOf0
  v0 := Tryz.zeroValue0
  t3 := Tryz.underlying3
  a3 := Tryz.isAgg3
  z3 := Tryz.sizeOf3
  v3 := Tryz.zeroValue3
  t4 := Tryz.underlying4
  a4 := Tryz.isAgg4
  z4 := Tryz.sizeOf4
  v4 := Tryz.zeroValue4
  t9 := Tryz.underlying9
  a9 := Tryz.isAgg9
  z9 := Tryz.sizeOf9
  v9 := Tryz.zeroValue9
  t37 := Tryz.underlying31
  a37 := Tryz.isAgg31
  z37 := Tryz.sizeOf31
  v37 := Tryz.zeroValue31
  t127 := Tryz.underlying331
  a127 := Tryz.isAgg331
  z127 := Tryz.sizeOf331
  v127 := Tryz.zeroValue331
  t5 := Tryz.underlying5
  a5 := Tryz.isAgg5
  z5 := Tryz.sizeOf5
  v5 := Tryz.zeroValue5
  i0 := by kernel_rfl
  i3 := by kernel_rfl
  i4 := by kernel_rfl
  i5 := by kernel_rfl
  i9 := by kernel_rfl
  i37 := by kernel_rfl
  i127 := by kernel_rfl }
open Go.RowKit in
theorem Tryz.stringslite_Clone (s : ByteArray) (w : World) (hlim : s.size ≤ 281474976710656) :
    Calls Tryz.prog 238 #[.string s] w fun e w' => e = .returned (.string s) ∧ Below w.heap.size w w' := Any.stringslite_Clone Tryz.laysM316 s w hlim
end Go.Proofs.YtccklgopcjilcaaGreatDoor
