/- Laid together: IntsX, PfM, PtU, PtV, PtW. -/
import Derived.Test.YtgghigfflpbjiaaGreatDoorGE
import Derived.Deep.QuietTactic
import Derived.BigQuiet
import Derived.Laws.OwnMore
import Derived.RangeFuncBox
import Derived.Test.YtgghigfflpbjiaaGreatDoorGA
import Derived.Test.YtgghigfflpbjiaaGreatDoorGC
import Derived.Maps.AppendAt
import Derived.Below
/- The law's own helpers over lists of numbers: whether two are the same, marks written into one, and whether it still holds them. -/
namespace Go.Proofs.YtgghigfflpbjiaaGreatDoor
open Go.RowKit
set_option linter.unusedVariables false
namespace Ints
open Ex (hid)
def vals (xs : List Int) : List Value := xs.map fun x => .int .i64 x
/-- A slice of numbers that lies in memory. -/
def IntsAt (w : World) (v : Value) (xs : List Int) : Prop :=
  (v = .slice none 0 0 ∧ xs = []) ∨ ∃ g cap, v = .slice (some ⟨g, 0, none⟩) xs.length cap ∧ g < w.heap.size ∧ ∀ i x, xs[i]? = some x → w.cell? ⟨g, i, none⟩ = some (.int .i64 x)
theorem IntsAt.slice {w : World} {v : Value} {xs : List Int} (h : IntsAt w v xs) : ∃ a cap, v = .slice a xs.length cap := by
  rcases h with ⟨rfl, rfl⟩ | ⟨g, cap, rfl, _⟩
  · exact ⟨none, 0, rfl⟩
  · exact ⟨_, _, rfl⟩
theorem IntsAt.at {w : World} {a : Option Addr} {n cap : Nat} {xs : List Int} (h : IntsAt w (.slice a n cap) xs) {i : Nat} (hi : i < xs.length) : ∃ g, a = some ⟨g, 0, none⟩ ∧ g < w.heap.size ∧ w.cell? ⟨g, i, none⟩ = some (.int .i64 xs[i]) := by
  rcases h with ⟨_, rfl⟩ | ⟨g, cap, e, hg, hc⟩
  · simp at hi
  · cases e
    exact ⟨g, rfl, hg, hc i _ (List.getElem?_eq_getElem hi)⟩
theorem IntsAt.kept {w w' : World} {v : Value} {xs : List Int} (h : IntsAt w v xs) (hs : w.heap.size ≤ w'.heap.size) (hb : ∀ b, v.ownBlock = some b → b < w.heap.size → w'.heap[b]? = w.heap[b]?) : IntsAt w' v xs := by
  rcases h with h | ⟨g, cap, rfl, hg, hc⟩
  · exact .inl h
  · exact .inr ⟨g, cap, rfl, Nat.lt_of_lt_of_le hg hs, fun i x hx => by simp only [World.cell?, hb g rfl hg]; exact hc i x hx⟩
theorem IntsAt.below {w w' : World} {v : Value} {xs : List Int} (h : IntsAt w v xs) (hb : Below w.heap.size w w') : IntsAt w' v xs := h.kept hb.size (fun b _ h => hb.block b h)
theorem IntsAt.of {w : World} {base : Nat} {v : Value} {xs : List Int} (h : w.ownsRow base 2 1 v xs.length (vals xs)) : IntsAt w v xs := by
  obtain ⟨hl, ⟨rfl, h0⟩ | ⟨g, cap, cur, rfl, hbg, hg, hle, hm, hs, ht⟩⟩ := h
  · exact .inl ⟨rfl, List.length_eq_zero_iff.1 h0⟩
  · refine .inr ⟨g, cap, rfl, (Array.getElem?_eq_some_iff.1 hg).1, fun i t hti => ?_⟩
    have hi : i < xs.length := (List.getElem?_eq_some_iff.1 hti).1
    have : cur[i]? = some (.int .i64 t) := by
      have h2 := congrArg (·[i]?) ht
      simp only [vals, Nat.mul_one, List.getElem?_take, List.getElem?_map, hti, Option.map_some, hi, if_true] at h2
      simpa using h2
    simp [World.cell?, hg, this]
theorem below_drewN {B : Nat} {a w : World} (h : Below B a w) (n : Nat) : Below B a (w.drewN n) := ⟨h.os, h.tape, h.output, h.size, h.block⟩
def marksTo (n : Nat) : List Int := (List.range n).map fun (i : Nat) => (i : Int) + 1
theorem marksTo_len (n : Nat) : (marksTo n).length = n := by simp [marksTo]
theorem marksTo_succ (n : Nat) : marksTo (n + 1) = marksTo n ++ [(n : Int) + 1] := by simp [marksTo, List.range_succ]
theorem marksTo_get {n i : Nat} (h : i < n) : (marksTo n)[i]? = some ((i : Int) + 1) := by simp [marksTo, h]
def half (xs : List Int) (i : Nat) : List Int := marksTo i ++ xs.drop i
theorem half_set {xs : List Int} {i : Nat} (h : i < xs.length) : (half xs i).set i ((i : Int) + 1) = half xs (i + 1) := by
  unfold half
  rw [marksTo_succ, List.drop_eq_getElem_cons h, List.set_append_right _ _ (Nat.le_of_eq (marksTo_len i)), marksTo_len, Nat.sub_self, List.set_cons_zero, List.append_assoc]
  rfl
theorem owns_cell {w : World} {base g n cap i : Nat} {e : TypeId} {xs : List Value} (h : w.ownsRow base e 1 (.slice (some ⟨g, 0, none⟩) n cap) n xs) (hi : i < n) :
    (∃ u, w.cell? ⟨g, i, none⟩ = some u) ∧ w.frozen? ⟨g, i, none⟩ = false ∧ base ≤ g ∧ g < w.heap.size := by
  obtain ⟨hl, ⟨h0, _⟩ | ⟨g', cap', cur, hv, hbg, hg, hle, hm, hs, ht⟩⟩ := h
  · cases h0
  · cases hv
    have hlt : i < cur.size := by omega
    exact ⟨⟨cur[i], by simp [World.cell?, hg, hlt]⟩, by simp [World.frozen?, hg], hbg, (Array.getElem?_eq_some_iff.1 hg).1⟩
theorem owns_some {w : World} {base n : Nat} {e : TypeId} {v : Value} {xs : List Value} (h : w.ownsRow base e 1 v n xs) (hn : 0 < n) : ∃ g cap, v = .slice (some ⟨g, 0, none⟩) n cap := by
  obtain ⟨hl, ⟨_, h0⟩ | ⟨g', cap', cur, hv, _⟩⟩ := h
  · omega
  · exact ⟨_, _, hv⟩
theorem owns_slice {w : World} {base n : Nat} {e : TypeId} {v : Value} {xs : List Value} (h : w.ownsRow base e 1 v n xs) : ∃ a cap, v = .slice a n cap := by
  obtain ⟨hl, ⟨rfl, rfl⟩ | ⟨g', cap', cur, hv, _⟩⟩ := h
  · exact ⟨_, _, rfl⟩
  · exact ⟨_, _, hv⟩
theorem owns_below {w w' : World} {base : Nat} {e : TypeId} {size n : Nat} {v : Value} {xs : List Value} (h : w.ownsRow base e size v n xs) (hb : Below w.heap.size w w') : w'.ownsRow base e size v n xs :=
  h.kept (row := none) ⟨hb.os, hb.tape, hb.output, hb.size, fun k hk _ => hb.block k hk⟩ (by cases v.ownBlock <;> simp)
theorem grown_refl (w : World) (row : Option Nat) : w.grownBy w row := ⟨rfl, rfl, rfl, Nat.le_refl _, fun _ _ _ => rfl⟩
theorem grown_after {w w1 w2 : World} {row : Option Nat} (h : w.grownBy w1 row) (h2 : w1.grownBy w2 row) : w.grownBy w2 row :=
  ⟨h2.os.trans h.os, h2.tape.trans h.tape, h2.output.trans h.output, Nat.le_trans h.size h2.size, fun k hk hr => (h2.block k (Nat.lt_of_lt_of_le hk h.size) hr).trans (h.block k hk hr)⟩
theorem grown_set {w w1 : World} {g : Nat} (h : w.grownBy w1 (some g)) (i : Nat) (u : Value) : w.grownBy (w1.setCell ⟨g, i, none⟩ u) (some g) :=
  grown_after h ⟨rfl, rfl, rfl, by simp [World.setCell], fun k hk hr => Below.heap_setCell _ _ _ _ (fun e => hr (by rw [e]))⟩
end Ints
end Go.Proofs.YtgghigfflpbjiaaGreatDoor
/- Plain facts about processes, of no program: what is wrong with one. -/
namespace Go.Proofs.YtgghigfflpbjiaaGreatDoor
open Go.RowKit
set_option linter.unusedVariables false
namespace Pf
open Ex (hid inR eFault typeCode typeVal)
open Nd (NodeD)
open St (StepD)
open Tr (Chain cutTo onPath top nf ElemD)
/-! ### the first code of several -/
def firstC (f : Nat → Int) : Nat → Int
  | 0 => 0
  | n + 1 => if firstC f n ≠ 0 then firstC f n else f n
theorem first_next {f : Nat → Int} {i : Nat} (h : firstC f i = 0) (hb : f i = 0) : firstC f (i + 1) = 0 := by
  rw [firstC, if_neg (by simp [h]), hb]
theorem first_keep {f : Nat → Int} : ∀ {n m : Nat}, m ≤ n → firstC f m ≠ 0 → firstC f n = firstC f m
  | 0, m, h, h2 => by obtain rfl : m = 0 := by omega
                      rfl
  | n + 1, m, h, h2 => by
    by_cases e : m = n + 1
    · rw [e]
    · have h3 := first_keep (f := f) (n := n) (m := m) (by omega) h2
      rw [firstC, if_pos (by rw [h3]; exact h2), h3]
theorem first_bad {f : Nat → Int} {n i : Nat} (hi : i < n) (h : firstC f i = 0) (hb : f i ≠ 0) : firstC f n = f i := by
  have e : firstC f (i + 1) = f i := by rw [firstC, if_neg (by simp [h])]
  rw [first_keep (m := i + 1) (by omega) (by rw [e]; exact hb), e]
theorem first_to {f : Nat → Int} {n i : Nat} (h : firstC f n = 0) (hi : i ≤ n) : firstC f i = 0 := by
  by_cases e : firstC f i = 0
  · exact e
  · rw [first_keep hi e] at h; exact absurd h e
theorem first_all {f : Nat → Int} {n : Nat} (h : firstC f n = 0) {i : Nat} (hi : i < n) : f i = 0 := by
  by_cases e : f i = 0
  · exact e
  · have := first_bad hi (first_to h (by omega)) e
    rw [h] at this; exact absurd this.symm e
/-! ### one step -/
def bare (s : StepD) : Bool := ((s.kind == 2) || s.name.toList.isEmpty) && (inR s.kind 5 8 || (s.arg == 0)) && ((s.kind == 7) || decide (s.expr.length = 0))
def argOk (s : StepD) : Bool := if s.kind = 5 then inR s.arg 0 9 else if s.kind = 6 ∨ s.kind = 8 then inR s.arg 1 99 else if s.kind = 7 then inR s.arg 0 3 else true
def partC (s : StepD) : Int := if s.kind = 2 ∧ nf s.name.data.toList ≠ 0 then nf s.name.data.toList else if argOk s = false then 3 else if s.kind = 7 then eFault s.expr else 0
def formOk (s : StepD) : Bool := inR s.kind 1 8 && bare s
def PJ (ss : List StepD) (i : Nat) : StepD := ss[i]?.getD ⟨0, 0, ByteArray.empty, 0, [], []⟩
theorem PJ_eq {ss : List StepD} {i : Nat} (h : i < ss.length) : PJ ss i = ss[i] := by unfold PJ; rw [List.getElem?_eq_getElem h]; rfl
/-- The steps as elements: their parents alone matter. -/
def es (ss : List StepD) : List ElemD := ss.map fun s => ⟨s.name, s.parent, []⟩
theorem es_len (ss : List StepD) : (es ss).length = ss.length := by simp [es]
theorem es_par {ss : List StepD} {i : Nat} (h : i < ss.length) : ((es ss)[i]'(by rw [es_len]; exact h)).parent = ss[i].parent := by simp [es]
/-- The path of the step at i - 1. -/
def path (ss : List StepD) : Nat → List Nat
  | 0 => []
  | i + 1 => i :: cutTo (PJ ss i).parent (path ss i)
def parOk (i : Nat) (p : Int) : Bool := if i = 0 then p == -1 else inR p 0 ((i : Int) - 1)
def oneC (ss : List StepD) (i : Nat) : Int :=
  if formOk (PJ ss i) = false then 1 else if parOk i (PJ ss i).parent = false then 3
  else if 0 < i ∧ onPath (PJ ss i).parent (path ss i) = false then 1
  else if 7 < (path ss (i + 1)).length then 2 else partC (PJ ss i)
theorem one_form {ss : List StepD} {i : Nat} (h1 : formOk (PJ ss i) = false) : oneC ss i = 1 := by unfold oneC; rw [if_pos h1]
theorem one_par {ss : List StepD} {i : Nat} (h1 : formOk (PJ ss i) = true) (h2 : parOk i (PJ ss i).parent = false) : oneC ss i = 3 := by unfold oneC; rw [if_neg (by simp [h1]), if_pos h2]
theorem one_line {ss : List StepD} {i : Nat} (h1 : formOk (PJ ss i) = true) (h2 : parOk i (PJ ss i).parent = true) (h3 : 0 < i ∧ onPath (PJ ss i).parent (path ss i) = false) : oneC ss i = 1 := by unfold oneC; rw [if_neg (by simp [h1]), if_neg (by simp [h2]), if_pos h3]
theorem one_many {ss : List StepD} {i : Nat} (h1 : formOk (PJ ss i) = true) (h2 : parOk i (PJ ss i).parent = true) (h3 : ¬ (0 < i ∧ onPath (PJ ss i).parent (path ss i) = false)) (h4 : 7 < (path ss (i + 1)).length) : oneC ss i = 2 := by unfold oneC; rw [if_neg (by simp [h1]), if_neg (by simp [h2]), if_neg h3, if_pos h4]
theorem one_part {ss : List StepD} {i : Nat} (h1 : formOk (PJ ss i) = true) (h2 : parOk i (PJ ss i).parent = true) (h3 : ¬ (0 < i ∧ onPath (PJ ss i).parent (path ss i) = false)) (h4 : ¬ 7 < (path ss (i + 1)).length) : oneC ss i = partC (PJ ss i) := by unfold oneC; rw [if_neg (by simp [h1]), if_neg (by simp [h2]), if_neg h3, if_neg h4]
theorem part_name {s : StepD} (h : s.kind = 2) (h2 : nf s.name.data.toList ≠ 0) : partC s = nf s.name.data.toList := by unfold partC; rw [if_pos ⟨h, h2⟩]
theorem part_arg {s : StepD} (h : ¬ (s.kind = 2 ∧ nf s.name.data.toList ≠ 0)) (h2 : argOk s = false) : partC s = 3 := by unfold partC; rw [if_neg h, if_pos h2]
theorem part_set {s : StepD} (h : ¬ (s.kind = 2 ∧ nf s.name.data.toList ≠ 0)) (h2 : argOk s = true) (h3 : s.kind = 7) : partC s = eFault s.expr := by unfold partC; rw [if_neg h, if_neg (by simp [h2]), if_pos h3]
theorem part_ok {s : StepD} (h : ¬ (s.kind = 2 ∧ nf s.name.data.toList ≠ 0)) (h2 : argOk s = true) (h3 : s.kind ≠ 7) : partC s = 0 := by unfold partC; rw [if_neg h, if_neg (by simp [h2]), if_neg h3]
theorem par_not {i : Nat} {p : Int} : parOk i p = false ↔ (i = 0 ∧ p ≠ -1) ∨ (0 < i ∧ ¬ (0 ≤ p ∧ p < i)) := by
  unfold parOk
  by_cases h : i = 0
  · rw [if_pos h]; simp [h]
  · rw [if_neg h, Ex.inR_not]
    constructor
    · intro h2; exact .inr ⟨by omega, by omega⟩
    · rintro (h2 | h2)
      · omega
      · omega
theorem of_one {ss : List StepD} {i : Nat} (h : oneC ss i = 0) : formOk (PJ ss i) = true ∧ parOk i (PJ ss i).parent = true ∧ ¬ (0 < i ∧ onPath (PJ ss i).parent (path ss i) = false) ∧ ¬ 7 < (path ss (i + 1)).length ∧ partC (PJ ss i) = 0 := by
  unfold oneC at h
  by_cases h1 : formOk (PJ ss i) = false
  · rw [if_pos h1] at h; omega
  rw [if_neg h1] at h
  by_cases h2 : parOk i (PJ ss i).parent = false
  · rw [if_pos h2] at h; omega
  rw [if_neg h2] at h
  by_cases h3 : 0 < i ∧ onPath (PJ ss i).parent (path ss i) = false
  · rw [if_pos h3] at h; omega
  rw [if_neg h3] at h
  by_cases h4 : 7 < (path ss (i + 1)).length
  · rw [if_pos h4] at h; omega
  rw [if_neg h4] at h
  exact ⟨by simpa using h1, by simpa using h2, h3, h4, h⟩
/-- All that is known of the path where nothing was found so far. -/
structure Walked (ss : List StepD) (i : Nat) : Prop where
  chain : Chain (es ss) (path ss i)
  first : top (path ss i) = (i : Int) - 1
  deep : (path ss i).length ≤ 7
theorem top_path (ss : List StepD) : ∀ i, top (path ss i) = (i : Int) - 1
  | 0 => rfl
  | i + 1 => by show ((i : Nat) : Int) = _; simp
theorem next_chain {ss : List StepD} {i : Nat} (hi : i < ss.length) (hc : Chain (es ss) (path ss i)) (h2 : parOk i (PJ ss i).parent = true) (h3 : ¬ (0 < i ∧ onPath (PJ ss i).parent (path ss i) = false)) : Chain (es ss) (path ss (i + 1)) := by
  have hi' : i < (es ss).length := by rw [es_len]; exact hi
  have hp : (es ss)[i].parent = (PJ ss i).parent := by rw [es_par hi, PJ_eq hi]
  have h := Tr.next_chain (es := es ss) (i := i) (S := path ss i) hc (top_path ss i) hi' (by
    rw [hp]
    intro h4
    rw [par_not.2 h4] at h2
    cases h2) (by rw [hp]; exact h3)
  rw [hp] at h
  exact h
theorem walked {ss : List StepD} : ∀ {i : Nat}, i ≤ ss.length → firstC (oneC ss) i = 0 → Walked ss i
  | 0, _, _ => ⟨trivial, rfl, Nat.zero_le _⟩
  | i + 1, hi, h => by
    have h0 := first_to h (Nat.le_succ i)
    have h1 := of_one (first_all h (Nat.lt_succ_self i))
    have w := walked (by omega) h0
    exact ⟨next_chain (by omega) w.chain h1.2.1 h1.2.2.1, top_path ss _, by omega⟩
/-! ### kids -/
def kidsN (ss : List StepD) (n j : Nat) : List Nat := (List.range n).filter fun i => (PJ ss i).parent == (j : Int)
def kidsL (ss : List StepD) (j : Nat) : List Nat := kidsN ss ss.length j
theorem kidsN_succ (ss : List StepD) (n j : Nat) : kidsN ss (n + 1) j = kidsN ss n j ++ (if (PJ ss n).parent = (j : Int) then [n] else []) := by
  unfold kidsN
  rw [List.range_succ, List.filter_append]
  congr 1
  by_cases h : (PJ ss n).parent = (j : Int)
  · simp [h]
  · simp [h]
theorem kidsN_le (ss : List StepD) (n j : Nat) : (kidsN ss n j).length ≤ n := by
  unfold kidsN
  have := List.length_filter_le (fun i => (PJ ss i).parent == (j : Int)) (List.range n)
  simpa using this
def manyOk (kind : Int) (n : Nat) : Bool := if kind = 1 then decide (1 ≤ n) else if kind = 3 ∨ kind = 4 then decide (2 ≤ n) else if kind = 8 then decide (n = 2) else decide (n = 0)
def lastIs (l : List Nat) (i : Nat) : Bool := l.getLast? == some i
def needs (ss : List StepD) (i : Nat) : Bool := decide (0 ≤ (PJ ss i).parent) && ((PJ ss (PJ ss i).parent.toNat).kind == 3) && !lastIs (kidsL ss (PJ ss i).parent.toNat) i
def linkC (ss : List StepD) (i : Nat) : Int := if manyOk (PJ ss i).kind (kidsL ss i).length = false then 1 else if needs ss i ≠ decide (0 < (PJ ss i).cond.length) then 1 else if 0 < (PJ ss i).cond.length then eFault (PJ ss i).cond else 0
theorem link_many {ss : List StepD} {i : Nat} (h : manyOk (PJ ss i).kind (kidsL ss i).length = false) : linkC ss i = 1 := by unfold linkC; rw [if_pos h]
theorem link_need {ss : List StepD} {i : Nat} (h : manyOk (PJ ss i).kind (kidsL ss i).length = true) (h2 : needs ss i ≠ decide (0 < (PJ ss i).cond.length)) : linkC ss i = 1 := by unfold linkC; rw [if_neg (by simp [h]), if_pos h2]
theorem link_cond {ss : List StepD} {i : Nat} (h : manyOk (PJ ss i).kind (kidsL ss i).length = true) (h2 : needs ss i = decide (0 < (PJ ss i).cond.length)) (h3 : 0 < (PJ ss i).cond.length) : linkC ss i = eFault (PJ ss i).cond := by unfold linkC; rw [if_neg (by simp [h]), if_neg (by simp [h2]), if_pos h3]
theorem link_ok {ss : List StepD} {i : Nat} (h : manyOk (PJ ss i).kind (kidsL ss i).length = true) (h2 : needs ss i = decide (0 < (PJ ss i).cond.length)) (h3 : ¬ 0 < (PJ ss i).cond.length) : linkC ss i = 0 := by unfold linkC; rw [if_neg (by simp [h]), if_neg (by simp [h2]), if_neg h3]
/-! ### types -/
def tyC (e : List NodeD) (want : Int) : Int := if e.length = 0 then 0 else if typeCode e ≠ 0 then typeCode e else if typeVal e ≠ want then 7 else 0
theorem ty_nil {e : List NodeD} {want : Int} (h : e.length = 0) : tyC e want = 0 := by unfold tyC; rw [if_pos h]
theorem ty_code {e : List NodeD} {want : Int} (h : e.length ≠ 0) (h2 : typeCode e ≠ 0) : tyC e want = typeCode e := by unfold tyC; rw [if_neg h, if_pos h2]
theorem ty_type {e : List NodeD} {want : Int} (h : e.length ≠ 0) (h2 : typeCode e = 0) (h3 : typeVal e ≠ want) : tyC e want = 7 := by unfold tyC; rw [if_neg h, if_neg (by simp [h2]), if_pos h3]
theorem ty_ok {e : List NodeD} {want : Int} (h : e.length ≠ 0) (h2 : typeCode e = 0) (h3 : typeVal e = want) : tyC e want = 0 := by unfold tyC; rw [if_neg h, if_neg (by simp [h2]), if_neg (by simp [h3])]
def typC (ss : List StepD) (i : Nat) : Int := if tyC (PJ ss i).cond 2 ≠ 0 then tyC (PJ ss i).cond 2 else tyC (PJ ss i).expr 1
/-! ### all of it -/
def pFault (ss : List StepD) : Int :=
  if ss.length < 1 ∨ 24 < ss.length then 2 else if firstC (oneC ss) ss.length ≠ 0 then firstC (oneC ss) ss.length
  else if firstC (linkC ss) ss.length ≠ 0 then firstC (linkC ss) ss.length else firstC (typC ss) ss.length
theorem p_many {ss : List StepD} (h : ss.length < 1 ∨ 24 < ss.length) : pFault ss = 2 := by unfold pFault; rw [if_pos h]
theorem p_one {ss : List StepD} (h : ¬ (ss.length < 1 ∨ 24 < ss.length)) {i : Nat} (hi : i < ss.length) (h1 : firstC (oneC ss) i = 0) (h2 : oneC ss i ≠ 0) : pFault ss = oneC ss i := by
  have e := first_bad hi h1 h2
  unfold pFault; rw [if_neg h, if_pos (by rw [e]; exact h2), e]
theorem p_link {ss : List StepD} (h : ¬ (ss.length < 1 ∨ 24 < ss.length)) (h0 : firstC (oneC ss) ss.length = 0) {i : Nat} (hi : i < ss.length) (h1 : firstC (linkC ss) i = 0) (h2 : linkC ss i ≠ 0) : pFault ss = linkC ss i := by
  have e := first_bad hi h1 h2
  unfold pFault; rw [if_neg h, if_neg (by simp [h0]), if_pos (by rw [e]; exact h2), e]
theorem p_typ {ss : List StepD} (h : ¬ (ss.length < 1 ∨ 24 < ss.length)) (h0 : firstC (oneC ss) ss.length = 0) (h1 : firstC (linkC ss) ss.length = 0) {i : Nat} (hi : i < ss.length) (h2 : firstC (typC ss) i = 0) (h3 : typC ss i ≠ 0) : pFault ss = typC ss i := by
  have e := first_bad hi h2 h3
  unfold pFault; rw [if_neg h, if_neg (by simp [h0]), if_neg (by simp [h1]), e]
theorem p_ok {ss : List StepD} (h : ¬ (ss.length < 1 ∨ 24 < ss.length)) (h0 : firstC (oneC ss) ss.length = 0) (h1 : firstC (linkC ss) ss.length = 0) (h2 : firstC (typC ss) ss.length = 0) : pFault ss = 0 := by
  unfold pFault; rw [if_neg h, if_neg (by simp [h0]), if_neg (by simp [h1]), h2]
theorem of_p {ss : List StepD} (h : pFault ss = 0) : ¬ (ss.length < 1 ∨ 24 < ss.length) ∧ firstC (oneC ss) ss.length = 0 ∧ firstC (linkC ss) ss.length = 0 ∧ firstC (typC ss) ss.length = 0 := by
  unfold pFault at h
  by_cases h0 : ss.length < 1 ∨ 24 < ss.length
  · rw [if_pos h0] at h; omega
  rw [if_neg h0] at h
  by_cases h1 : firstC (oneC ss) ss.length ≠ 0
  · rw [if_pos h1] at h; exact absurd h h1
  rw [if_neg h1] at h
  by_cases h2 : firstC (linkC ss) ss.length ≠ 0
  · rw [if_pos h2] at h; exact absurd h h2
  rw [if_neg h2] at h
  exact ⟨h0, by simpa using h1, by simpa using h2, h⟩
/-- The parent of a step where nothing was found. -/
theorem par_lt {ss : List StepD} {i : Nat} (h : oneC ss i = 0) : (PJ ss i).parent < i ∧ -1 ≤ (PJ ss i).parent := by
  have h2 := (of_one h).2.1
  unfold parOk at h2
  by_cases h0 : i = 0
  · rw [if_pos h0] at h2
    have : (PJ ss i).parent = -1 := beq_iff_eq.1 h2
    omega
  · rw [if_neg h0] at h2
    have := Ex.inR_iff.1 h2
    omega
end Pf
end Go.Proofs.YtgghigfflpbjiaaGreatDoor
/- The program's tree in memory: a row of branches, each with a row of its kids; what a store, a new kid and a new branch leave of it. -/
namespace Go.Proofs.YtgghigfflpbjiaaGreatDoor
open Go.RowKit
set_option linter.unusedVariables false
namespace Pt
open Ex (hid)
open Nd (NodeD)
open St (StepD)
open Tr (Chain cutTo onPath top)
structure Br where
  kind : Int
  par : Int
  name : ByteArray
  arg : Int
  vc : Value
  ve : Value
  deep : Nat
  kv : Value
  kids : List Nat
def Br.cells (b : Br) : List Value := [.int .i64 b.kind, .int .i64 b.par, .string b.name, .int .i64 b.arg, b.vc, b.ve, .int .i64 b.par, .int .i64 b.deep, b.kv]
def kidVals (l : List Nat) : List Value := l.map fun (i : Nat) => .int .i64 (i : Int)
def flat (f : Nat → List Value) (n : Nat) : List Value := (List.range n).flatMap f
theorem flat_succ (f : Nat → List Value) (n : Nat) : flat f (n + 1) = flat f n ++ f n := by simp [flat, List.range_succ]
theorem flat_len {f : Nat → List Value} (h : ∀ j, (f j).length = 9) : ∀ n, (flat f n).length = n * 9
  | 0 => rfl
  | n + 1 => by rw [flat_succ, List.length_append, flat_len h n, h n]; omega
theorem flat_get {f : Nat → List Value} (h : ∀ j, (f j).length = 9) : ∀ {n j c : Nat}, j < n → c < 9 → (flat f n)[j * 9 + c]? = (f j)[c]?
  | 0, j, c, hj, _ => by omega
  | n + 1, j, c, hj, hc => by
    rw [flat_succ]
    by_cases e : j = n
    · subst e
      rw [List.getElem?_append_right (by rw [flat_len h]; omega), flat_len h, Nat.add_sub_cancel_left]
    · rw [List.getElem?_append_left (by rw [flat_len h]; omega)]
      exact flat_get h (by omega) hc
theorem flat_congr {f g : Nat → List Value} : ∀ {n : Nat}, (∀ j, j < n → f j = g j) → flat f n = flat g n
  | 0, _ => rfl
  | n + 1, h => by rw [flat_succ, flat_succ, h n (by omega), flat_congr (fun j hj => h j (by omega))]
theorem flat_set {f : Nat → List Value} (h : ∀ j, (f j).length = 9) {n j c : Nat} (hj : j < n) (hc : c < 9) (u : Value) :
    (flat f n).set (j * 9 + c) u = flat (fun i => if i = j then (f j).set c u else f i) n := by
  induction n with
  | zero => omega
  | succ n ih =>
    rw [flat_succ, flat_succ]
    by_cases e : j = n
    · subst e
      rw [List.set_append_right _ _ (by rw [flat_len h]; omega), flat_len h, Nat.add_sub_cancel_left, if_pos rfl]
      congr 1
      exact flat_congr (fun i hi => by rw [if_neg (by omega)])
    · rw [List.set_append_left _ _ (by rw [flat_len h]; omega), ih (by omega), if_neg (by omega)]
theorem cells_len (b : Br) : b.cells.length = 9 := rfl
def own (v : Value) (b : Nat) : Prop := v.ownBlock = some b
structure TreeAt (w : World) (B : Nat) (v : Value) (n : Nat) (T : Nat → Br) : Prop where
  row : w.ownsRow B 155 9 v n (flat (fun j => (T j).cells) n)
  kids : ∀ j, j < n → w.ownsRow B 2 1 (T j).kv (T j).kids.length (kidVals (T j).kids)
  sep : ∀ i j, i < n → j < n → i ≠ j → ∀ b, own (T i).kv b → ¬ own (T j).kv b
  sepv : ∀ j, j < n → ∀ b, own (T j).kv b → ¬ own v b
  lens : ∀ j, j < n → (T j).kids.length ≤ n
/-- A block that the tree has no hand in. -/
def Off (v : Value) (n : Nat) (T : Nat → Br) (b : Nat) : Prop := ¬ own v b ∧ ∀ j, j < n → ¬ own (T j).kv b
theorem own_lt {w : World} {B : Nat} {e : TypeId} {size n b : Nat} {v : Value} {xs : List Value} (h : w.ownsRow B e size v n xs) (hb : own v b) : B ≤ b ∧ b < w.heap.size := by
  rcases h.2 with ⟨rfl, _⟩ | ⟨g, cap, cur, rfl, hbg, hg, _⟩
  · simp [own, Value.ownBlock] at hb
  · obtain rfl : g = b := by simpa [own, Value.ownBlock] using hb
    exact ⟨hbg, (Array.getElem?_eq_some_iff.1 hg).1⟩
theorem TreeAt.kept {w w' : World} {B : Nat} {v : Value} {n : Nat} {T : Nat → Br} (h : TreeAt w B v n T) (hos : w'.os = w.os) (htape : w'.tape = w.tape) (hout : w'.output = w.output) (hsz : w.heap.size ≤ w'.heap.size) (hb : ∀ g, g < w.heap.size → B ≤ g → w'.heap[g]? = w.heap[g]?) : TreeAt w' B v n T := by
  have keep : ∀ {e : TypeId} {size m : Nat} {u : Value} {xs : List Value}, w.ownsRow B e size u m xs → w'.ownsRow B e size u m xs := fun {e size m u xs} h => by
    refine ⟨h.1, ?_⟩
    rcases h.2 with hn | ⟨g, cap, cur, rfl, hbg, hg, rest⟩
    · exact .inl hn
    · exact .inr ⟨g, cap, cur, rfl, hbg, by rw [hb g (Array.getElem?_eq_some_iff.1 hg).1 hbg]; exact hg, rest⟩
  exact ⟨keep h.row, fun j hj => keep (h.kids j hj), h.sep, h.sepv, h.lens⟩
theorem TreeAt.below {w w' : World} {B : Nat} {v : Value} {n : Nat} {T : Nat → Br} (h : TreeAt w B v n T) (hb : Below w.heap.size w w') : TreeAt w' B v n T :=
  h.kept hb.os hb.tape hb.output hb.size (fun g hg _ => hb.block g hg)
theorem TreeAt.nil (w : World) (B : Nat) (T : Nat → Br) : TreeAt w B (.slice none 0 0) 0 T :=
  ⟨World.ownsRow_nil w B _ 9, fun j h => by omega, fun i j h => by omega, fun j h => by omega, fun j h => by omega⟩
theorem TreeAt.slice {w : World} {B : Nat} {v : Value} {n : Nat} {T : Nat → Br} (h : TreeAt w B v n T) : ∃ a cap, v = .slice a n cap := by
  rcases h.row.2 with ⟨rfl, rfl⟩ | ⟨g, cap, cur, rfl, _⟩
  · exact ⟨_, _, rfl⟩
  · exact ⟨_, _, rfl⟩
theorem TreeAt.at {w : World} {B : Nat} {a : Option Addr} {m cap n : Nat} {T : Nat → Br} (h : TreeAt w B (.slice a m cap) n T) {j : Nat} (hj : j < n) :
    ∃ g, a = some ⟨g, 0, none⟩ ∧ m = n ∧ B ≤ g ∧ g < w.heap.size ∧ w.cell? ⟨g, j * 9, none⟩ = some (.int .i64 (T j).kind) ∧ w.cell? ⟨g, j * 9 + 1, none⟩ = some (.int .i64 (T j).par) ∧ w.cell? ⟨g, j * 9 + 2, none⟩ = some (.string (T j).name) ∧ w.cell? ⟨g, j * 9 + 3, none⟩ = some (.int .i64 (T j).arg) ∧ w.cell? ⟨g, j * 9 + 4, none⟩ = some (T j).vc ∧ w.cell? ⟨g, j * 9 + 5, none⟩ = some (T j).ve ∧
      w.cell? ⟨g, j * 9 + 6, none⟩ = some (.int .i64 (T j).par) ∧ w.cell? ⟨g, j * 9 + 7, none⟩ = some (.int .i64 (T j).deep) ∧ w.cell? ⟨g, j * 9 + 8, none⟩ = some (T j).kv ∧ ∀ c, w.frozen? ⟨g, c, none⟩ = false := by
  rcases h.row.2 with ⟨_, h0⟩ | ⟨g, cap', cur, hv, hbg, hg, hle, hm, hs, ht⟩
  · omega
  · simp only [Value.slice.injEq] at hv
    obtain ⟨rfl, rfl, rfl⟩ := hv
    have hget : ∀ c, c < 9 → w.cell? ⟨g, j * 9 + c, none⟩ = (T j).cells[c]? := fun c hc => by
      have h2 := flat_get (f := fun j => (T j).cells) (fun j => cells_len _) hj hc
      rw [← ht, List.getElem?_take, if_pos (by omega)] at h2
      simp only [World.cell?, hg, Option.isSome_none, Bool.false_eq_true, if_false]
      simpa using h2
    refine ⟨g, rfl, rfl, hbg, (Array.getElem?_eq_some_iff.1 hg).1, hget 0 (by omega), hget 1 (by omega), hget 2 (by omega), hget 3 (by omega), hget 4 (by omega), hget 5 (by omega), hget 6 (by omega), hget 7 (by omega), hget 8 (by omega), fun c => ?_⟩
    simp [World.frozen?, hg]
/-- A new kid of branch p: the row of its kids has grown, and the branch holds the new one. -/
theorem TreeAt.kid {w1 w2 : World} {B g m cap n p q : Nat} {T : Nat → Br} {kv : Value} (h : TreeAt w1 B (.slice (some ⟨g, 0, none⟩) m cap) n T) (hp : p < n) (hq : (T p).kids.length + 1 ≤ n)
    (hown : w2.ownsRow B 2 1 kv ((T p).kids.length + 1) (kidVals (T p).kids ++ [.int .i64 (q : Int)])) (hg : w1.grownBy w2 (T p).kv.ownBlock) (hat : kv.ownBlock = (T p).kv.ownBlock ∨ kv.ownBlock = some w1.heap.size) :
    TreeAt (w2.setCell ⟨g, p * 9 + 8, none⟩ kv) B (.slice (some ⟨g, 0, none⟩) m cap) n (fun j => if j = p then { T p with kv := kv, kids := (T p).kids ++ [q] } else T j) := by
  have hgb : own (.slice (some ⟨g, 0, none⟩) m cap) g := rfl
  have hgl := own_lt h.row hgb
  have hvp : ∀ b, own (T p).kv b → b ≠ g := fun b hb e => h.sepv p hp b hb (by rw [e]; exact hgb)
  have hkv : ∀ b, own kv b → own (T p).kv b ∨ b = w1.heap.size := fun b hb => by
    rcases hat with e | e
    · exact .inl (by unfold own; rw [← e]; exact hb)
    · right; unfold own at hb; rw [e] at hb; exact (Option.some.inj hb).symm
  have hrow2 : w2.ownsRow B 155 9 (.slice (some ⟨g, 0, none⟩) m cap) n (flat (fun j => (T j).cells) n) := h.row.kept hg (.inr (fun e => by
    have : own (T p).kv g := e.symm
    exact hvp g this rfl))
  have hmn : m = n := by
    rcases h.row.2 with ⟨e, _⟩ | ⟨_, _, _, e, _⟩
    · cases e
    · cases e; rfl
  subst hmn
  have hst := (hrow2.stored (p * 9 + 8) kv).1
  rw [flat_set (fun j => cells_len _) hp (by omega)] at hst
  have heq : flat (fun i => if i = p then (T p).cells.set 8 kv else (T i).cells) m = flat (fun j => (if j = p then { T p with kv := kv, kids := (T p).kids ++ [q] } else T j).cells) m := by
    refine flat_congr (fun j hj => ?_)
    by_cases e : j = p
    · simp only [e, if_true]; rfl
    · simp only [e, if_false]
  rw [heq] at hst
  refine ⟨hst, fun j hj => ?_, fun i j hi hj hij b => ?_, fun j hj b => ?_, fun j hj => ?_⟩
  · by_cases e : j = p
    · subst e
      simp only [if_true]
      have h2 : w2.ownsRow B 2 1 kv ((T j).kids ++ [q]).length (kidVals ((T j).kids ++ [q])) := by simpa [kidVals] using hown
      refine h2.kept (hrow2.stored (j * 9 + 8) kv).2 (.inr (fun e => ?_))
      rcases hkv g e with h3 | h3
      · exact hvp g h3 rfl
      · omega
    · simp only [e, if_false]
      have h2 : w2.ownsRow B 2 1 (T j).kv (T j).kids.length (kidVals (T j).kids) := (h.kids j hj).kept hg (by
        cases hb : (T j).kv.ownBlock with
        | none => exact .inl rfl
        | some b => exact .inr (fun e2 => h.sep j p hj hp e b hb e2.symm))
      refine h2.kept (hrow2.stored (p * 9 + 8) kv).2 (.inr (fun e2 => h.sepv j hj g e2 hgb))
  · by_cases e1 : i = p
    · subst e1
      have e2 : j ≠ i := fun e => hij e.symm
      simp only [if_true, e2, if_false]
      intro hb hj2
      rcases hkv b hb with h3 | h3
      · exact h.sep i j hi hj hij b h3 hj2
      · have := (own_lt (h.kids j hj) hj2).2
        omega
    · by_cases e2 : j = p
      · subst e2
        simp only [e1, if_false, if_true]
        intro hb hj2
        rcases hkv b hj2 with h3 | h3
        · exact h.sep i j hi hj hij b hb h3
        · have := (own_lt (h.kids i hi) hb).2
          omega
      · simp only [e1, e2, if_false]
        exact h.sep i j hi hj hij b
  · by_cases e : j = p
    · subst e
      simp only [if_true]
      intro hb hv
      obtain rfl : g = b := by simpa [own, Value.ownBlock] using hv
      rcases hkv g hb with h3 | h3
      · exact hvp g h3 rfl
      · omega
    · simp only [e, if_false]
      exact h.sepv j hj b
  · by_cases e : j = p
    · subst e
      simp only [if_true, List.length_append, List.length_cons, List.length_nil]
      omega
    · simp only [e, if_false]
      exact h.lens j hj
/-- A new branch behind all others. -/
theorem TreeAt.push {w1 w2 : World} {B n : Nat} {v v' : Value} {T : Nat → Br} {b : Br} (h : TreeAt w1 B v n T) (hk : b.kv = .slice none 0 0) (hk2 : b.kids = [])
    (hown : w2.ownsRow B 155 9 v' (n + 1) (flat (fun j => (T j).cells) n ++ b.cells)) (hg : w1.grownBy w2 v.ownBlock) (hat : v'.ownBlock = v.ownBlock ∨ v'.ownBlock = some w1.heap.size) :
    TreeAt w2 B v' (n + 1) (fun j => if j = n then b else T j) := by
  have hv' : ∀ c, own v' c → own v c ∨ c = w1.heap.size := fun c hc => by
    rcases hat with e | e
    · exact .inl (by unfold own; rw [← e]; exact hc)
    · right; unfold own at hc; rw [e] at hc; exact (Option.some.inj hc).symm
  have hb0 : ∀ c, ¬ own b.kv c := fun c e => by rw [hk] at e; simp [own, Value.ownBlock] at e
  refine ⟨?_, fun j hj => ?_, fun i j hi hj hij c => ?_, fun j hj c => ?_, fun j hj => ?_⟩
  · rw [flat_succ, if_pos rfl, flat_congr (g := fun j => (T j).cells) (fun j hj => by rw [if_neg (by omega)])]
    exact hown
  · by_cases e : j = n
    · simp only [e, if_true, hk, hk2]
      exact World.ownsRow_nil _ _ _ _
    · simp only [e, if_false]
      refine (h.kids j (by omega)).kept hg ?_
      cases hb : (T j).kv.ownBlock with
      | none => exact .inl rfl
      | some c => exact .inr (fun e2 => h.sepv j (by omega) c hb e2.symm)
  · by_cases e1 : i = n
    · simp only [e1, if_true]
      exact fun hc => absurd hc (hb0 c)
    · by_cases e2 : j = n
      · simp only [e1, e2, if_false, if_true]
        exact fun _ hc => hb0 c hc
      · simp only [e1, e2, if_false]
        exact h.sep i j (by omega) (by omega) hij c
  · by_cases e : j = n
    · simp only [e, if_true]
      exact fun hc => absurd hc (hb0 c)
    · simp only [e, if_false]
      intro hc hv
      rcases hv' c hv with h3 | h3
      · exact h.sepv j (by omega) c hc h3
      · have := (own_lt (h.kids j (by omega)) hc).2
        omega
  · by_cases e : j = n
    · simp only [e, if_true, hk2]; exact Nat.zero_le _
    · simp only [e, if_false]
      have := h.lens j (by omega)
      omega
end Pt
end Go.Proofs.YtgghigfflpbjiaaGreatDoor
/- A branch put behind all others, as the program does it. -/
namespace Go.Proofs.YtgghigfflpbjiaaGreatDoor
open Go.RowKit
set_option linter.unusedVariables false
namespace Pt
open Ex (hid)
open Nd (NodeD)
open St (StepD)
open Tr (Chain cutTo onPath top ElemD cut_yes cut_no onPath_cons top_lt top_ge chain_tail on_lt)
theorem chain_get {es : List ElemD} {a : Nat} {r : List Nat} (h : Chain es (a :: r)) : ∃ h1 : a < es.length, es[a].parent = top r := by
  obtain ⟨⟨e, he, hp⟩, _, _⟩ := h
  obtain ⟨h1, h2⟩ := List.getElem?_eq_some_iff.1 he
  exact ⟨h1, by rw [h2]; exact hp⟩
def DeepOn (T : Nat → Br) : List Nat → Prop
  | [] => True
  | a :: r => (T a).deep = r.length + 1 ∧ DeepOn T r
theorem deep_cut {T : Nat → Br} {p : Int} : ∀ {S : List Nat}, DeepOn T S → DeepOn T (cutTo p S)
  | [], _ => trivial
  | a :: r, h => by
    unfold cutTo
    split
    · exact h
    · exact deep_cut h.2
theorem cut_cons {p : Int} : ∀ {S : List Nat}, onPath p S = true → ∃ a r, cutTo p S = a :: r ∧ (a : Int) = p
  | [], h => by simp [onPath] at h
  | a :: r, h => by
    by_cases e : (a : Int) = p
    · exact ⟨a, r, cut_yes e, e⟩
    · rw [cut_no e]
      exact cut_cons (by rw [onPath_cons] at h; simpa [e] using h)
theorem deep_at {T : Nat → Br} {p : Int} {S : List Nat} (h : DeepOn T S) (hp : onPath p S = true) : (T p.toNat).deep = (cutTo p S).length := by
  obtain ⟨a, r, e, ea⟩ := cut_cons hp
  have h2 := deep_cut (p := p) h
  rw [e] at h2 ⊢
  have : p.toNat = a := by omega
  rw [this]
  exact h2.1
theorem deep_congr {T T' : Nat → Br} {n : Nat} {es : List ElemD} (hT : ∀ j, j < n → (T' j).deep = (T j).deep) : ∀ {S : List Nat}, Chain es S → top S < n → DeepOn T S → DeepOn T' S
  | [], _, _, _ => trivial
  | a :: r, hc, hn, h => by
    have ha : (a : Int) < n := hn
    have := top_lt hc
    exact ⟨by rw [hT a (by omega)]; exact h.1, deep_congr hT hc.2.2 (by omega) h.2⟩
def pfault (n : Nat) (S : List Nat) (p : Int) : Int := if n = 0 then (if p = -1 then 0 else 3) else if 0 ≤ p ∧ p < n then (if onPath p S then 0 else 1) else 3
set_option maxRecDepth 100000 in
set_option maxHeartbeats 400000 in
theorem hasPlace (a : Option Addr) (n cap : Nat) (p : Int) (w : World) (hn : n ≤ 1048576) :
    Calls Tryz.prog 127 #[.slice a n cap, .int .i64 p] w fun e w' => e = .returned (.bool (decide (0 ≤ p) && decide (p < n))) ∧ w' = w := by
  by_cases h1 : 0 ≤ p
  · by_cases h2 : p < (n : Int)
    · have HV : Hid ((decide (0 ≤ p) && decide (p < n)) = true) := hid (by simp [h1, h2])
      go_enter Tryz.func127, Tryz.ntmps127
      go_wp2
      go_ret
      exact ⟨by simp [h1, h2], rfl⟩
    · go_enter Tryz.func127, Tryz.ntmps127
      go_wp2
      go_ret
      exact ⟨by simp; omega, rfl⟩
  · go_enter Tryz.func127, Tryz.ntmps127
    go_wp2
    go_ret
    exact ⟨by simp; omega, rfl⟩
set_option maxRecDepth 100000 in
set_option maxHeartbeats 2000000 in
theorem parentFault (es : List ElemD) (T : Nat → Br) (S : List Nat) (B : Nat) (v : Value) (n : Nat) (p : Int) (w : World) (hn : n ≤ 1048576) (hle : n ≤ es.length) (ht : TreeAt w B v n T)
    (hT : ∀ j (h : j < es.length), j < n → (T j).par = es[j].parent) (hc : Chain es S) (h1 : top S = (n : Int) - 1) :
    Calls Tryz.prog 113 #[v, .int .i64 p] w fun e w' => e = .returned (.int .i64 (pfault n S p)) ∧ w' = w := by
  obtain ⟨a, cap, rfl⟩ := ht.slice
  have HT := hid ht
  have HP := hid hT
  have HC := hid hc
  have H1 := hid h1
  have HH := hid (hasPlace a n cap p w hn)
  clear ht hT hc h1
  by_cases h0 : n = 0
  · by_cases hp : p = -1
    · have HV : Hid (pfault n S p = 0) := hid (by unfold pfault; rw [if_pos h0, if_pos hp])
      have b0 : ((n : Int) == 0) = true := beq_iff_eq.2 (by omega)
      have b1 : (p != -1) = false := by simp [hp]
      clear h0 hp
      go_enter Tryz.func113, Tryz.ntmps113
      go_wp2
      go_ret
      exact ⟨by rw [HV.out]; rfl, rfl⟩
    · have HV : Hid (pfault n S p = 3) := hid (by unfold pfault; rw [if_pos h0, if_neg hp])
      have b0 : ((n : Int) == 0) = true := beq_iff_eq.2 (by omega)
      have b1 : (p != -1) = true := bne_iff_ne.2 hp
      clear h0 hp
      go_enter Tryz.func113, Tryz.ntmps113
      go_wp2
      go_ret
      exact ⟨by rw [HV.out]; rfl, rfl⟩
  have b0 : ((n : Int) == 0) = false := beq_eq_false_iff_ne.2 (by omega)
  by_cases hp : 0 ≤ p ∧ p < (n : Int)
  · have HV : Hid (pfault n S p = if onPath p S then 0 else 1) := hid (by unfold pfault; rw [if_neg h0, if_pos hp])
    have e1 : (decide (0 ≤ p) && decide (p < n)) = true := by simp [hp.1, hp.2]
    rw [e1] at HH
    have hp1 := hp.1
    have hp2 := hp.2
    clear hp e1 h0
    go_enter Tryz.func113, Tryz.ntmps113
    go_wp2_with (go_at_call 127; refine HH.out.mono ?_; rintro e w' ⟨rfl, rfl⟩)
    go_loop [5] (fun x => ∃ S' : List Nat, x = .int .i64 (top S') ∧ top S' < n ∧ Hid (Chain es S' ∧ onPath p S = onPath p S')) (fun x => (intOf x + 1).toNat)
    case atStart => exact ⟨S, by rw [H1.out], by rw [H1.out]; omega, HC.out, rfl⟩
    case round =>
      obtain ⟨S', rfl, htn, HS⟩ := hrel
      have htg0 := top_ge S'
      cases S' with
      | nil =>
        have HX : Hid (onPath p S = false) := hid (by rw [HS.out.2]; rfl)
        have q2 : ¬ p < top [] := by show ¬ p < -1; omega
        have q3 : (top [] != p) = true := bne_iff_ne.2 (by show ((-1 : Int)) ≠ p; omega)
        go_wp2
        go_ret
        exact ⟨by rw [HV.out, HX.out]; rfl, rfl⟩
      | cons x r =>
        obtain ⟨hx, hpx⟩ := chain_get HS.out.1
        have htl := top_lt HS.out.1
        have htg := top_ge r
        have ht : top (x :: r) = (x : Int) := rfl
        rw [ht] at htn ⊢
        have hxn : x < n := by omega
        by_cases hgt : p < (x : Int)
        · have HX : Hid (Chain es r ∧ onPath p S = onPath p r) := hid ⟨chain_tail HS.out.1, by
            rw [HS.out.2, onPath_cons]
            have : ¬ ((x : Int) = p) := by omega
            simp [this]⟩
          obtain ⟨g, rfl, _, hB, hg, c0, c1, c2, c3, c4, c5, c6, c7, c8, _⟩ := HT.out.at hxn
          rw [HP.out x hx hxn, hpx] at c6
          clear c0 c1 c2 c3 c4 c5 c7 c8
          have q3 : (x : Int) < (n : Int) := by omega
          go_wp2
          exact ⟨⟨r, rfl, by omega, HX⟩, by simp [intOf]; omega⟩
        · by_cases he : (x : Int) = p
          · have HX : Hid (onPath p S = true) := hid (by rw [HS.out.2, onPath_cons]; simp [he])
            have q3 : ((x : Int) != p) = false := by simp [he]
            clear he
            go_wp2
            go_ret
            exact ⟨by rw [HV.out, HX.out]; rfl, rfl⟩
          · have HX : Hid (onPath p S = false) := hid (by
              rw [HS.out.2]
              cases hb : onPath p (x :: r)
              · rfl
              · have h3 := on_lt HS.out.1 hb
                have h4 : top (x :: r) = (x : Int) := rfl
                omega)
            have q3 : ((x : Int) != p) = true := bne_iff_ne.2 he
            clear he
            go_wp2
            go_ret
            exact ⟨by rw [HV.out, HX.out]; rfl, rfl⟩
  · have HV : Hid (pfault n S p = 3) := hid (by unfold pfault; rw [if_neg h0, if_neg hp])
    have e1 : (decide (0 ≤ p) && decide (p < n)) = false := by
      rw [← Bool.not_eq_true]; intro e; apply hp; simpa using e
    rw [e1] at HH
    clear hp e1 h0
    go_enter Tryz.func113, Tryz.ntmps113
    go_wp2_with (go_at_call 127; refine HH.out.mono ?_; rintro e w' ⟨rfl, rfl⟩)
    go_ret
    exact ⟨by rw [HV.out]; rfl, rfl⟩
end Pt
end Go.Proofs.YtgghigfflpbjiaaGreatDoor
/- fillTree of the program. -/
namespace Go.Proofs.YtgghigfflpbjiaaGreatDoor
open Go.RowKit
set_option linter.unusedVariables false
namespace Pt
open Ex (hid)
open Nd (NodeD)
open St (StepD)
open Tr (Chain cutTo onPath top ElemD cut_le)
def fcode (n : Nat) (S : List Nat) (p : Int) : Int := if pfault n S p ≠ 0 then pfault n S p else if 7 < (cutTo p S).length + 1 then 2 else 0
/-- Nothing has turned but what the tree owns. -/
structure KeptOff (w w' : World) (v : Value) (n : Nat) (T : Nat → Br) : Prop where
  os : w'.os = w.os
  tape : w'.tape = w.tape
  output : w'.output = w.output
  size : w.heap.size ≤ w'.heap.size
  block : ∀ b, b < w.heap.size → Off v n T b → w'.heap[b]? = w.heap[b]?
theorem off_low {w : World} {B : Nat} {v : Value} {n : Nat} {T : Nat → Br} (h : TreeAt w B v n T) {b : Nat} (hb : b < B) : Off v n T b :=
  ⟨fun e => by have := (own_lt h.row e).1; omega, fun j hj e => by have := (own_lt (h.kids j hj) e).1; omega⟩
theorem off_new {w : World} {B : Nat} {v : Value} {n : Nat} {T : Nat → Br} (h : TreeAt w B v n T) {b : Nat} (hb : w.heap.size ≤ b) : Off v n T b :=
  ⟨fun e => by have := (own_lt h.row e).2; omega, fun j hj e => by have := (own_lt (h.kids j hj) e).2; omega⟩
theorem KeptOff.below {w w' : World} {B : Nat} {v : Value} {n : Nat} {T : Nat → Br} (h : KeptOff w w' v n T) (ht : TreeAt w B v n T) (hB : B ≤ w.heap.size) : Below B w w' :=
  ⟨h.os, h.tape, h.output, h.size, fun b hb => h.block b (by omega) (off_low ht hb)⟩
theorem KeptOff.of_below {w w' : World} {v : Value} {n : Nat} {T : Nat → Br} (h : Below w.heap.size w w') : KeptOff w w' v n T := ⟨h.os, h.tape, h.output, h.size, fun b hb _ => h.block b hb⟩
/-- How the tree has grown. -/
structure Grew (T T' : Nat → Br) (n : Nat) (b : Br) : Prop where
  old : ∀ j, j < n → T' j = { T j with kv := (T' j).kv, kids := (T j).kids ++ (if (j : Int) = b.par then [n] else []) }
  new : T' n = b
theorem infoBranch : (Tryz.prog.info? 155).map (fun i => (i.zero, i.size, i.bytes)) = some (some (.agg #[.int .i64 0, .int .i64 0, .string { data := #[] }, .int .i64 0, .slice none 0 0, .slice none 0 0, .int .i64 0, .int .i64 0, .slice none 0 0]), 9, 128) := by kernel_rfl
theorem infoI64 : (Tryz.prog.info? 2).map (fun i => (i.zero, i.size, i.bytes)) = some (some (.int .i64 0), 1, 8) := by kernel_rfl
theorem info_parts {P : Program} {e : TypeId} {z : Value} {sz bytes : Nat} (h : (P.info? e).map (fun i => (i.zero, i.size, i.bytes)) = some (some z, sz, bytes)) : ∃ i, P.info? e = some i ∧ i.zero = some z ∧ i.size = sz ∧ i.bytes = bytes := by
  cases hi : P.info? e with
  | none => rw [hi] at h; cases h
  | some i =>
    rw [hi] at h
    simp only [Option.map_some, Option.some.injEq, Prod.mk.injEq] at h
    exact ⟨i, rfl, h.1, h.2.1, h.2.2⟩
theorem cell_nine (w : World) (b : Nat) (hb : b = w.heap.size) (x0 x1 x2 x3 x4 x5 x6 x7 x8 : Value) (t : TypeId) : ∀ j u, [x0, x1, x2, x3, x4, x5, x6, x7, x8][j]? = some u → (w.alloc (.cells #[x0, x1, x2, x3, x4, x5, x6, x7, x8] t)).cell? ((⟨b, 0, none⟩ : Addr).add j) = some u := by
  subst hb
  intro j u hj
  rw [Go.WideShapes.add_plain]
  simp only [Nat.zero_add, World.cell?_alloc_new]
  simpa using hj
theorem cell_one (w : World) (b : Nat) (hb : b = w.heap.size) (x : Value) (t : TypeId) : ∀ j u, [x][j]? = some u → (w.alloc (.cells #[x] t)).cell? ((⟨b, 0, none⟩ : Addr).add j) = some u := by
  subst hb
  exact cell_one_new w x t
theorem KeptOff.alloc {w w1 : World} {v : Value} {n : Nat} {T : Nat → Br} (h : KeptOff w w1 v n T) (o : Obj) : KeptOff w (w1.alloc o) v n T :=
  ⟨h.os, h.tape, h.output, by rw [World.size_alloc]; have := h.size; omega, fun b hb ho => by
    rw [← h.block b hb ho]
    exact (World.grownBy_alloc w1 o none).block b (Nat.lt_of_lt_of_le hb h.size) (by simp)⟩
theorem KeptOff.grown {w w1 w2 : World} {v : Value} {n : Nat} {T : Nat → Br} {row : Option Nat} (h : KeptOff w w1 v n T) (hg : w1.grownBy w2 row) (hr : ∀ b, Off v n T b → row ≠ some b) : KeptOff w w2 v n T :=
  ⟨hg.os.trans h.os, hg.tape.trans h.tape, hg.output.trans h.output, Nat.le_trans h.size hg.size, fun b hb ho => by
    rw [← h.block b hb ho]
    exact hg.block b (Nat.lt_of_lt_of_le hb h.size) (fun e => hr b ho e.symm)⟩
theorem KeptOff.set {w w1 : World} {v : Value} {n : Nat} {T : Nat → Br} (h : KeptOff w w1 v n T) {g c : Nat} (hg : own v g) (u : Value) : KeptOff w (w1.setCell ⟨g, c, none⟩ u) v n T :=
  ⟨h.os, h.tape, h.output, by simp only [World.setCell, Array.size_modify]; exact h.size, fun b hb ho => by
    rw [← h.block b hb ho]
    exact Below.heap_setCell _ _ _ _ (fun e => ho.1 (by rw [e]; exact hg))⟩
theorem grown_cell {w w' : World} {row : Option Nat} {b o : Nat} {v : Value} (h : w.grownBy w' row) (hc : w.cell? ⟨b, o, none⟩ = some v) (hr : row ≠ some b) : w'.cell? ⟨b, o, none⟩ = some v := by
  have hb : b < w.heap.size := by
    rcases Nat.lt_or_ge b w.heap.size with h1 | h1
    · exact h1
    · simp [World.cell?, Array.getElem?_eq_none h1] at hc
  simp only [World.cell?] at hc ⊢
  rw [h.block b hb (fun e => hr e.symm)]
  exact hc
theorem grown_free {w w' : World} {row : Option Nat} {b o : Nat} (h : w.grownBy w' row) (hb : b < w.heap.size) (hc : w.frozen? ⟨b, o, none⟩ = false) (hr : row ≠ some b) : w'.frozen? ⟨b, o, none⟩ = false := by
  simp only [World.frozen?] at hc ⊢
  rw [h.block b hb (fun e => hr e.symm)]
  exact hc
theorem set_cell {w : World} {g c b o : Nat} {u v : Value} (hne : b ≠ g) (hc : w.cell? ⟨b, o, none⟩ = some v) : (w.setCell ⟨g, c, none⟩ u).cell? ⟨b, o, none⟩ = some v := by
  simp only [World.cell?] at hc ⊢
  rw [Below.heap_setCell _ _ _ _ hne]
  exact hc
def kidT (T : Nat → Br) (q n : Nat) (kv : Value) : Nat → Br := fun j => if j = q then { T q with kv := kv, kids := (T q).kids ++ [n] } else T j
/-- The kids of branch q have grown by one, and the branch holds them. -/
theorem kid_step {w w2 : World} {B g n cap q : Nat} {T : Nat → Br} {kv kvq x0 x1 x2 x3 x4 x5 : Value} {t1 : TypeId} {o2 : Obj} (ht : TreeAt w B (.slice (some ⟨g, 0, none⟩) n cap) n T) (hqn : q < n) (hl : (T q).kids.length + 1 ≤ n) (hkq : (T q).kv = kvq)
    (hown : w2.ownsRow B 2 1 kv ((T q).kids.length + 1) (kidVals (T q).kids ++ [.int .i64 (n : Int)])) (hg : ((w.alloc (.cells #[x0, x1, x2, x3, x4, x5] t1)).alloc o2).grownBy w2 kvq.ownBlock) (hat : kv.ownBlock = kvq.ownBlock ∨ kv.ownBlock = some ((w.alloc (.cells #[x0, x1, x2, x3, x4, x5] t1)).alloc o2).heap.size) :
    ∃ gk ck, kv = .slice (some ⟨gk, 0, none⟩) ((T q).kids.length + 1) ck ∧ w2.cell? ⟨g, q * 9 + 8, none⟩ = some kvq ∧ w2.frozen? ⟨g, q * 9 + 8, none⟩ = false ∧ w.heap.size + 2 ≤ w2.heap.size ∧
      (w2.setCell ⟨g, q * 9 + 8, none⟩ kv).cell? ⟨w.heap.size, 0, none⟩ = some x0 ∧ (w2.setCell ⟨g, q * 9 + 8, none⟩ kv).cell? ⟨w.heap.size, 1, none⟩ = some x1 ∧ (w2.setCell ⟨g, q * 9 + 8, none⟩ kv).cell? ⟨w.heap.size, 2, none⟩ = some x2 ∧ (w2.setCell ⟨g, q * 9 + 8, none⟩ kv).cell? ⟨w.heap.size, 3, none⟩ = some x3 ∧ (w2.setCell ⟨g, q * 9 + 8, none⟩ kv).cell? ⟨w.heap.size, 4, none⟩ = some x4 ∧ (w2.setCell ⟨g, q * 9 + 8, none⟩ kv).cell? ⟨w.heap.size, 5, none⟩ = some x5 ∧
      TreeAt (w2.setCell ⟨g, q * 9 + 8, none⟩ kv) B (.slice (some ⟨g, 0, none⟩) n cap) n (kidT T q n kv) ∧ KeptOff w (w2.setCell ⟨g, q * 9 + 8, none⟩ kv) (.slice (some ⟨g, 0, none⟩) n cap) n T := by
  subst hkq
  have hb0 : Below w.heap.size w ((w.alloc (.cells #[x0, x1, x2, x3, x4, x5] t1)).alloc o2) := ((Below.refl _ w).alloc (Nat.le_refl _) _).alloc (by simp) _
  have ht1 := ht.below hb0
  obtain ⟨gk, ck, hkv⟩ := ownsRow_succ hown
  obtain ⟨g', e1, _, hBg, hgl, _, _, _, _, _, _, _, _, c5, hfz⟩ := ht1.at hqn
  simp only [Option.some.injEq, Addr.mk.injEq, and_true] at e1
  subst e1
  obtain ⟨g2, e2, _, _, hgw, _⟩ := ht.at hqn
  simp only [Option.some.injEq, Addr.mk.injEq, and_true] at e2
  subst e2
  have hrq : (T q).kv.ownBlock ≠ some g := fun e => ht.sepv q hqn g e rfl
  have hrw : (T q).kv.ownBlock ≠ some w.heap.size := fun e => by have := (own_lt (ht.kids q hqn) e).2; omega
  have hcx : ∀ c x, #[x0, x1, x2, x3, x4, x5][c]? = some x → (w2.setCell ⟨g, q * 9 + 8, none⟩ kv).cell? ⟨w.heap.size, c, none⟩ = some x := fun c x hx => by
    refine set_cell (by omega) (grown_cell hg ?_ hrw)
    go_simp
  have hz := hg.size
  simp only [World.size_alloc] at hz
  refine ⟨gk, ck, hkv, grown_cell hg c5 hrq, grown_free hg hgl (hfz _) hrq, by omega, hcx 0 _ rfl, hcx 1 _ rfl, hcx 2 _ rfl, hcx 3 _ rfl, hcx 4 _ rfl, hcx 5 _ rfl, ht1.kid hqn hl hown hg hat, ?_⟩
  exact ((((KeptOff.of_below (Below.refl _ w)).alloc _).alloc _).grown hg (fun b ho e => ho.2 q hqn e)).set (show own (.slice (some ⟨g, 0, none⟩) n cap) g from rfl) _
theorem kidT_old {T : Nat → Br} {q n : Nat} {kv : Value} (j : Nat) (hj : j < n) : kidT T q n kv j = { T j with kv := (kidT T q n kv j).kv, kids := (T j).kids ++ (if (j : Int) = (q : Int) then [n] else []) } := by
  unfold kidT
  by_cases e : j = q
  · subst e; simp
  · have : ¬ ((j : Int) = (q : Int)) := by omega
    simp [e, this]
/-- A branch was put behind all others. -/
theorem push_done {w w1 w2 : World} {B n : Nat} {v v' : Value} {T T1 : Nat → Br} {b : Br} (h : TreeAt w1 B v n T1) (hk : KeptOff w w1 v n T) (hb : b.kv = .slice none 0 0) (hb2 : b.kids = [])
    (hold : ∀ j, j < n → T1 j = { T j with kv := (T1 j).kv, kids := (T j).kids ++ (if (j : Int) = b.par then [n] else []) })
    (hown : w2.ownsRow B 155 9 v' (n + 1) (flat (fun j => (T1 j).cells) n ++ b.cells)) (hg : w1.grownBy w2 v.ownBlock) (hat : v'.ownBlock = v.ownBlock ∨ v'.ownBlock = some w1.heap.size) :
    (∃ T', TreeAt w2 B v' (n + 1) T' ∧ Grew T T' n b) ∧ KeptOff w w2 v n T := by
  refine ⟨⟨fun j => if j = n then b else T1 j, h.push (b := b) hb hb2 hown hg hat, ?_, ?_⟩, hk.grown hg (fun b ho e => ho.1 e)⟩
  · intro j hj
    simp only [show ¬ j = n by omega, if_false]
    exact hold j hj
  · simp only [if_true]
set_option maxRecDepth 100000 in
set_option maxHeartbeats 4000000 in
theorem fillTree (es : List ElemD) (T : Nat → Br) (S : List Nat) (B : Nat) (v : Value) (n : Nat) (kd : Int) (nm : ByteArray) (ag : Int) (p : Int) (a3 : Option Addr) (n3 c3 : Nat) (a5 : Option Addr) (n5 c5' : Nat) (w : World) (hn : n ≤ 24) (hle : n ≤ es.length) (hB : B ≤ w.heap.size) (ht : TreeAt w B v n T)
    (hT : ∀ j (h : j < es.length), j < n → (T j).par = es[j].parent) (hc : Chain es S) (h1 : top S = (n : Int) - 1) (hd : DeepOn T S) (h8 : S.length ≤ 7) (hlt : ∀ j, j < n → (T j).kids.length < n) :
    Calls Tryz.prog 96 #[v, .agg #[.int .i64 kd, .int .i64 p, .string nm, .int .i64 ag, .slice a3 n3 c3, .slice a5 n5 c5'], .int .i64 p, .int .i64 7] w fun e w' =>
      (∃ v', e = .returned (.tuple #[v', .int .i64 (fcode n S p)]) ∧ (fcode n S p ≠ 0 → v' = .slice none 0 0) ∧
        (fcode n S p = 0 → ∃ T', TreeAt w' B v' (n + 1) T' ∧ Grew T T' n ⟨kd, p, nm, ag, .slice a3 n3 c3, .slice a5 n5 c5', (cutTo p S).length + 1, .slice none 0 0, []⟩)) ∧ KeptOff w w' v n T := by
  obtain ⟨a, cap, rfl⟩ := ht.slice
  have hb0 : Below w.heap.size w (w.alloc (.cells #[.int .i64 kd, .int .i64 p, .string nm, .int .i64 ag, .slice a3 n3 c3, .slice a5 n5 c5'] 49)) := (Below.refl _ w).alloc (Nat.le_refl _) _
  have HPF := hid (parentFault es T S B _ n p (w.alloc (.cells #[.int .i64 kd, .int .i64 p, .string nm, .int .i64 ag, .slice a3 n3 c3, .slice a5 n5 c5'] 49)) (by omega) hle (ht.below hb0) hT hc h1)
  have HT := hid ht
  have HD := hid hd
  have H1 := hid h1
  have HC := hid hc
  clear ht hT hd h1 hc
  by_cases hpf : pfault n S p = 0
  · have b1 : (pfault n S p != 0) = false := by simp [hpf]
    obtain ⟨i0, hi, hz0, hz1, hz2⟩ := info_parts infoBranch
    obtain ⟨j0, hj, hy0, hy1, hy2⟩ := info_parts infoI64
    have HPF' : Hid (Calls Tryz.prog 113 #[.slice a n cap, .int .i64 p] (w.alloc (.cells #[.int .i64 kd, .int .i64 p, .string nm, .int .i64 ag, .slice a3 n3 c3, .slice a5 n5 c5'] 49)) fun e w' => e = .returned (.int .i64 0) ∧ w' = (w.alloc (.cells #[.int .i64 kd, .int .i64 p, .string nm, .int .i64 ag, .slice a3 n3 c3, .slice a5 n5 c5'] 49))) := hid (by have h := HPF.out; rw [hpf] at h; exact h)
    clear HPF
    by_cases hp : p = -1
    · have h0 : n = 0 := by
        unfold pfault at hpf
        by_cases h0 : n = 0
        · exact h0
        · rw [if_neg h0, if_neg (by omega)] at hpf
          omega
      have hS : S = [] := by
        cases S with
        | nil => rfl
        | cons x r => have h := H1.out; exact absurd h (by show ¬ ((x : Int) = _); omega)
      have hcut : (cutTo p S).length = 0 := by rw [hS]; rfl
      have HV : Hid (fcode n S p = 0) := hid (by unfold fcode; rw [if_neg (by simp [hpf]), if_neg (by omega)])
      have b2 : (p != -1) = false := by simp [hp]
      have HCL := hid hcut
      have hrow := HT.out.row
      have HP := hid hp
      clear hpf hp hS hcut HC H1 HD
      have HN0 := hid h0
      clear h0
      go_enter Tryz.func96, Tryz.ntmps96
      go_wp2_with (first | (go_at_call 113; refine HPF'.out.mono ?_; rintro e w' ⟨rfl, rfl⟩) | (at_builtin; go_must (refine wpList_append_own_at _ rfl _ _ 119 rfl B 155 i0 (.agg #[.int .i64 0, .int .i64 0, .string { data := #[] }, .int .i64 0, .slice none 0 0, .slice none 0 0, .int .i64 0, .int .i64 0, .slice none 0 0]) 9 128 Tryz.underlying119 hi hz0 hz1 hz2 rfl (by decide) _ _ _ rfl ((hrow.alloc _).alloc _) ⟨w.heap.size + 1, 0, none⟩ 1 1 [.int .i64 kd, .int .i64 p, .string nm, .int .i64 ag, .slice a3 n3 c3, .slice a5 n5 c5', .int .i64 p, .int .i64 1, .slice none 0 0] rfl rfl (cell_nine _ _ (by simp) _ _ _ _ _ _ _ _ _ _) (by simp [Value.oneCell']) (by unfold maxLen; omega) (by omega) (by simp; omega) ?_); intro v' w2 hown' hgrow _ hat))
      go_ret2
      have hd := push_done (b := ⟨kd, p, nm, ag, .slice a3 n3 c3, .slice a5 n5 c5', 1, .slice none 0 0, []⟩) (T := T) (T1 := T) (w := w) ((HT.out.below hb0).below ((Below.refl _ _).alloc (Nat.le_refl _) _)) (((KeptOff.of_below (Below.refl _ w)).alloc _).alloc _) rfl rfl (fun j hj => by have := HN0.out; omega) hown' hgrow hat
      refine ⟨⟨_, by rw [HV.out]; rfl, fun e => absurd HV.out e, fun _ => ?_⟩, hd.2⟩
      rw [HCL.out]
      exact hd.1
    · have hpp : n ≠ 0 ∧ 0 ≤ p ∧ p < n ∧ onPath p S = true := by
        unfold pfault at hpf
        by_cases h0 : n = 0
        · rw [if_pos h0, if_neg hp] at hpf
          omega
        · rw [if_neg h0] at hpf
          by_cases h2 : 0 ≤ p ∧ p < (n : Int)
          · rw [if_pos h2] at hpf
            refine ⟨h0, h2.1, h2.2, ?_⟩
            cases hb : onPath p S
            · rw [hb] at hpf; simp at hpf
            · rfl
          · rw [if_neg h2] at hpf
            omega
      obtain ⟨hn0, hp0, hpn, hon⟩ := hpp
      have hda := deep_at HD.out hon
      have hcl : (cutTo p S).length ≤ 7 := Nat.le_trans cut_le h8
      obtain ⟨q, hq⟩ : ∃ q : Nat, p = (q : Int) := ⟨p.toNat, by omega⟩
      rw [hq, Int.toNat_natCast] at hda
      have hqn : q < n := by omega
      have b2 : ((q : Int) != -1) = true := bne_iff_ne.2 (by omega)
      have HF : Hid (fcode n S p = if 7 < (cutTo p S).length + 1 then 2 else 0) := hid (by unfold fcode; rw [if_neg (by simp [hpf])])
      subst hq
      obtain ⟨g, rfl, _, hBg, hg, c0, c1, c2, c3', c4', c4a, c4b, c4, c5, hfz⟩ := HT.out.at hqn
      rw [hda] at c4
      clear c0 c1 c2 c3' c4' c4a c4b hpf hp hon HC H1 HD hn0 hda
      generalize (cutTo (q : Int) S).length = dq at *
      by_cases h9 : 7 < dq + 1
      · have HV : Hid (fcode n S (q : Int) = 2) := hid (by rw [HF.out, if_pos h9])
        have b3 : (7 : Int) < 1 + (dq : Int) := by omega
        clear HF h9
        go_enter Tryz.func96, Tryz.ntmps96
        go_wp2_with (go_at_call 113; refine HPF'.out.mono ?_; rintro e w' ⟨rfl, rfl⟩)
        go_ret2
        exact ⟨⟨_, by rw [HV.out]; rfl, fun _ => rfl, fun e => by rw [HV.out] at e; omega⟩, KeptOff.of_below hb0⟩
      · have HV : Hid (fcode n S (q : Int) = 0) := hid (by rw [HF.out, if_neg h9])
        have b3 : ¬ (7 : Int) < 1 + (dq : Int) := by omega
        clear HF h9
        have hkq := HT.out.kids q hqn
        have hlk' : (T q).kids.length + 1 ≤ n := hlt q hqn
        have hlk : (T q).kids.length ≤ n := by omega
        have hrq : (T q).kv.ownBlock ≠ some g := fun e => HT.out.sepv q hqn g e rfl
        have hrw : (T q).kv.ownBlock ≠ some w.heap.size := fun e => by have := (own_lt hkq e).2; omega
        have hgw : g ≠ w.heap.size := by omega
        have hwg : w.heap.size ≠ g := by omega
        obtain ⟨kvq, hkvq⟩ : ∃ x, (T q).kv = x := ⟨_, rfl⟩
        have hsl : ∃ x y, kvq = .slice x (T q).kids.length y := by
          rw [← hkvq]
          rcases hkq.2 with ⟨e1, e2⟩ | ⟨x, y, _, e1, _⟩
          · exact ⟨none, 0, by rw [e1, e2]⟩
          · exact ⟨_, _, e1⟩
        rw [hkvq] at c5 hkq hrq hrw
        have HKQ := hid hkvq
        clear hkvq
        obtain ⟨xk, yk, rfl⟩ := hsl
        have hfz5 := hfz (q * 9 + 8)
        go_enter Tryz.func96, Tryz.ntmps96
        go_wp2_with (first
          | (go_at_call 113; refine HPF'.out.mono ?_; rintro e w' ⟨rfl, rfl⟩)
          | (at_builtin; (refine wpList_append_own_at _ rfl _ _ 108 rfl B 2 j0 (.int .i64 0) 1 8 Tryz.underlying108 hj hy0 hy1 hy2 rfl (by decide) _ _ _ rfl ((hkq.alloc _).alloc _) ⟨w.heap.size + 1, 0, none⟩ 1 1 [.int .i64 (n : Int)] rfl rfl (cell_one _ _ (by simp) _ _) (by simp [Value.oneCell']) (by unfold maxLen; omega) (by omega) (by simp; omega) ?_); intro kv w2 hown1 hg1 _ hat1; obtain ⟨gk, ck, rfl, s1, s2, s3, s4, s5, s6, s7, s8, s9, hT3, hK3⟩ := kid_step HT.out hqn hlk' HKQ.out hown1 hg1 hat1; have HT3 := hid hT3; have HK3 := hid hK3; have hrow3 := hT3.row; clear hT3 hK3 hown1 hg1 hat1)
          | (at_builtin; go_must (refine wpList_append_own_at _ rfl _ _ 119 rfl B 155 i0 (.agg #[.int .i64 0, .int .i64 0, .string { data := #[] }, .int .i64 0, .slice none 0 0, .slice none 0 0, .int .i64 0, .int .i64 0, .slice none 0 0]) 9 128 Tryz.underlying119 hi hz0 hz1 hz2 rfl (by decide) _ _ _ rfl (hrow3.alloc _) ⟨w2.heap.size, 0, none⟩ 1 1 [.int .i64 kd, .int .i64 (q : Int), .string nm, .int .i64 ag, .slice a3 n3 c3, .slice a5 n5 c5', .int .i64 (q : Int), .int .i64 (1 + (dq : Int)), .slice none 0 0] rfl rfl (cell_nine _ _ (by simp) _ _ _ _ _ _ _ _ _ _) (by simp [Value.oneCell']) (by unfold maxLen; omega) (by omega) (by simp; omega) ?_); intro v' w4 hown2 hg2 _ hat2))
        go_ret2
        have hB3 : Below (w2.setCell ⟨g, q * 9 + 8, none⟩ (.slice (some ⟨gk, 0, none⟩) ((T q).kids.length + 1) ck)).heap.size (w2.setCell ⟨g, q * 9 + 8, none⟩ (.slice (some ⟨gk, 0, none⟩) ((T q).kids.length + 1) ck)) ((w2.setCell ⟨g, q * 9 + 8, none⟩ (.slice (some ⟨gk, 0, none⟩) ((T q).kids.length + 1) ck)).alloc (.cells #[.int .i64 kd, .int .i64 (q : Int), .string nm, .int .i64 ag, .slice a3 n3 c3, .slice a5 n5 c5', .int .i64 (q : Int), .int .i64 (1 + (dq : Int)), .slice none 0 0] 155)) := (Below.refl _ _).alloc (Nat.le_refl _) _
        have hd := push_done (b := ⟨kd, q, nm, ag, .slice a3 n3 c3, .slice a5 n5 c5', dq + 1, .slice none 0 0, []⟩) (T := T) (T1 := kidT T q n (.slice (some ⟨gk, 0, none⟩) ((T q).kids.length + 1) ck)) (w := w) (v' := v') (w2 := w4) (HT3.out.below hB3) (HK3.out.alloc _) rfl rfl kidT_old (by
          have e1 : ((dq + 1 : Nat) : Int) = 1 + (dq : Int) := by omega
          unfold Br.cells
          rw [e1]
          exact hown2) hg2 hat2
        exact ⟨⟨_, by rw [HV.out]; rfl, fun e => absurd HV.out e, fun _ => hd.1⟩, hd.2⟩
  · have b1 : (pfault n S p != 0) = true := by simpa using hpf
    have HV : Hid (fcode n S p = pfault n S p) := hid (by unfold fcode; rw [if_pos hpf])
    have HN := hid hpf
    clear hpf
    go_enter Tryz.func96, Tryz.ntmps96
    go_wp2_with (go_at_call 113; refine HPF.out.mono ?_; rintro e w' ⟨rfl, rfl⟩)
    go_ret2
    exact ⟨⟨_, by rw [HV.out]; rfl, fun _ => rfl, fun e => absurd (by rw [← HV.out]; exact e) HN.out⟩, KeptOff.of_below hb0⟩
end Pt
end Go.Proofs.YtgghigfflpbjiaaGreatDoor
