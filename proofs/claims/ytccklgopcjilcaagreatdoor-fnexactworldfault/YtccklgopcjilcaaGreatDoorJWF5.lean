/- Laid together: PfM, NmA. -/
import Derived.Test.YtccklgopcjilcaaGreatDoorJWF2
import Derived.Test.YtccklgopcjilcaaGreatDoorJWF4
import Derived.Test.YtccklgopcjilcaaGreatDoorProg
import Derived.Below
import Derived.WalkSpells
import Derived.WalkLawsBesides
/- Plain facts about processes, of no program: what is wrong with one. -/
namespace Go.Proofs.YtccklgopcjilcaaGreatDoor
open Go.RowKit
set_option linter.unusedVariables false
namespace Pf
open Ex (hid inR eFault typeCode typeVal)
open Nd (NodeD)
open St (StepD)
open Tr (Chain cutTo onPath top nf ElemD)
/-! ### the first code of several -/
def firstC (f : Nat → Int) : Nat → Int
  | 0 => 0
  | n + 1 => if firstC f n ≠ 0 then firstC f n else f n
theorem first_next {f : Nat → Int} {i : Nat} (h : firstC f i = 0) (hb : f i = 0) : firstC f (i + 1) = 0 := by
  rw [firstC, if_neg (by simp [h]), hb]
theorem first_keep {f : Nat → Int} : ∀ {n m : Nat}, m ≤ n → firstC f m ≠ 0 → firstC f n = firstC f m
  | 0, m, h, h2 => by obtain rfl : m = 0 := by omega
                      rfl
  | n + 1, m, h, h2 => by
    by_cases e : m = n + 1
    · rw [e]
    · have h3 := first_keep (f := f) (n := n) (m := m) (by omega) h2
      rw [firstC, if_pos (by rw [h3]; exact h2), h3]
theorem first_bad {f : Nat → Int} {n i : Nat} (hi : i < n) (h : firstC f i = 0) (hb : f i ≠ 0) : firstC f n = f i := by
  have e : firstC f (i + 1) = f i := by rw [firstC, if_neg (by simp [h])]
  rw [first_keep (m := i + 1) (by omega) (by rw [e]; exact hb), e]
theorem first_to {f : Nat → Int} {n i : Nat} (h : firstC f n = 0) (hi : i ≤ n) : firstC f i = 0 := by
  by_cases e : firstC f i = 0
  · exact e
  · rw [first_keep hi e] at h; exact absurd h e
theorem first_all {f : Nat → Int} {n : Nat} (h : firstC f n = 0) {i : Nat} (hi : i < n) : f i = 0 := by
  by_cases e : f i = 0
  · exact e
  · have := first_bad hi (first_to h (by omega)) e
    rw [h] at this; exact absurd this.symm e
/-! ### one step -/
def bare (s : StepD) : Bool := ((s.kind == 2) || s.name.toList.isEmpty) && (inR s.kind 5 8 || (s.arg == 0)) && ((s.kind == 7) || decide (s.expr.length = 0))
def argOk (s : StepD) : Bool := if s.kind = 5 then inR s.arg 0 9 else if s.kind = 6 ∨ s.kind = 8 then inR s.arg 1 99 else if s.kind = 7 then inR s.arg 0 3 else true
def partC (s : StepD) : Int := if s.kind = 2 ∧ nf s.name.data.toList ≠ 0 then nf s.name.data.toList else if argOk s = false then 3 else if s.kind = 7 then eFault s.expr else 0
def formOk (s : StepD) : Bool := inR s.kind 1 8 && bare s
def PJ (ss : List StepD) (i : Nat) : StepD := ss[i]?.getD ⟨0, 0, ByteArray.empty, 0, [], []⟩
theorem PJ_eq {ss : List StepD} {i : Nat} (h : i < ss.length) : PJ ss i = ss[i] := by unfold PJ; rw [List.getElem?_eq_getElem h]; rfl
/-- The steps as elements: their parents alone matter. -/
def es (ss : List StepD) : List ElemD := ss.map fun s => ⟨s.name, s.parent, []⟩
theorem es_len (ss : List StepD) : (es ss).length = ss.length := by simp [es]
theorem es_par {ss : List StepD} {i : Nat} (h : i < ss.length) : ((es ss)[i]'(by rw [es_len]; exact h)).parent = ss[i].parent := by simp [es]
/-- The path of the step at i - 1. -/
def path (ss : List StepD) : Nat → List Nat
  | 0 => []
  | i + 1 => i :: cutTo (PJ ss i).parent (path ss i)
def parOk (i : Nat) (p : Int) : Bool := if i = 0 then p == -1 else inR p 0 ((i : Int) - 1)
def oneC (ss : List StepD) (i : Nat) : Int :=
  if formOk (PJ ss i) = false then 1 else if parOk i (PJ ss i).parent = false then 3
  else if 0 < i ∧ onPath (PJ ss i).parent (path ss i) = false then 1
  else if 7 < (path ss (i + 1)).length then 2 else partC (PJ ss i)
theorem one_form {ss : List StepD} {i : Nat} (h1 : formOk (PJ ss i) = false) : oneC ss i = 1 := by unfold oneC; rw [if_pos h1]
theorem one_par {ss : List StepD} {i : Nat} (h1 : formOk (PJ ss i) = true) (h2 : parOk i (PJ ss i).parent = false) : oneC ss i = 3 := by unfold oneC; rw [if_neg (by simp [h1]), if_pos h2]
theorem one_line {ss : List StepD} {i : Nat} (h1 : formOk (PJ ss i) = true) (h2 : parOk i (PJ ss i).parent = true) (h3 : 0 < i ∧ onPath (PJ ss i).parent (path ss i) = false) : oneC ss i = 1 := by unfold oneC; rw [if_neg (by simp [h1]), if_neg (by simp [h2]), if_pos h3]
theorem one_many {ss : List StepD} {i : Nat} (h1 : formOk (PJ ss i) = true) (h2 : parOk i (PJ ss i).parent = true) (h3 : ¬ (0 < i ∧ onPath (PJ ss i).parent (path ss i) = false)) (h4 : 7 < (path ss (i + 1)).length) : oneC ss i = 2 := by unfold oneC; rw [if_neg (by simp [h1]), if_neg (by simp [h2]), if_neg h3, if_pos h4]
theorem one_part {ss : List StepD} {i : Nat} (h1 : formOk (PJ ss i) = true) (h2 : parOk i (PJ ss i).parent = true) (h3 : ¬ (0 < i ∧ onPath (PJ ss i).parent (path ss i) = false)) (h4 : ¬ 7 < (path ss (i + 1)).length) : oneC ss i = partC (PJ ss i) := by unfold oneC; rw [if_neg (by simp [h1]), if_neg (by simp [h2]), if_neg h3, if_neg h4]
theorem part_name {s : StepD} (h : s.kind = 2) (h2 : nf s.name.data.toList ≠ 0) : partC s = nf s.name.data.toList := by unfold partC; rw [if_pos ⟨h, h2⟩]
theorem part_arg {s : StepD} (h : ¬ (s.kind = 2 ∧ nf s.name.data.toList ≠ 0)) (h2 : argOk s = false) : partC s = 3 := by unfold partC; rw [if_neg h, if_pos h2]
theorem part_set {s : StepD} (h : ¬ (s.kind = 2 ∧ nf s.name.data.toList ≠ 0)) (h2 : argOk s = true) (h3 : s.kind = 7) : partC s = eFault s.expr := by unfold partC; rw [if_neg h, if_neg (by simp [h2]), if_pos h3]
theorem part_ok {s : StepD} (h : ¬ (s.kind = 2 ∧ nf s.name.data.toList ≠ 0)) (h2 : argOk s = true) (h3 : s.kind ≠ 7) : partC s = 0 := by unfold partC; rw [if_neg h, if_neg (by simp [h2]), if_neg h3]
theorem par_not {i : Nat} {p : Int} : parOk i p = false ↔ (i = 0 ∧ p ≠ -1) ∨ (0 < i ∧ ¬ (0 ≤ p ∧ p < i)) := by
  unfold parOk
  by_cases h : i = 0
  · rw [if_pos h]; simp [h]
  · rw [if_neg h, Ex.inR_not]
    constructor
    · intro h2; exact .inr ⟨by omega, by omega⟩
    · rintro (h2 | h2)
      · omega
      · omega
theorem of_one {ss : List StepD} {i : Nat} (h : oneC ss i = 0) : formOk (PJ ss i) = true ∧ parOk i (PJ ss i).parent = true ∧ ¬ (0 < i ∧ onPath (PJ ss i).parent (path ss i) = false) ∧ ¬ 7 < (path ss (i + 1)).length ∧ partC (PJ ss i) = 0 := by
  unfold oneC at h
  by_cases h1 : formOk (PJ ss i) = false
  · rw [if_pos h1] at h; omega
  rw [if_neg h1] at h
  by_cases h2 : parOk i (PJ ss i).parent = false
  · rw [if_pos h2] at h; omega
  rw [if_neg h2] at h
  by_cases h3 : 0 < i ∧ onPath (PJ ss i).parent (path ss i) = false
  · rw [if_pos h3] at h; omega
  rw [if_neg h3] at h
  by_cases h4 : 7 < (path ss (i + 1)).length
  · rw [if_pos h4] at h; omega
  rw [if_neg h4] at h
  exact ⟨by simpa using h1, by simpa using h2, h3, h4, h⟩
/-- All that is known of the path where nothing was found so far. -/
structure Walked (ss : List StepD) (i : Nat) : Prop where
  chain : Chain (es ss) (path ss i)
  first : top (path ss i) = (i : Int) - 1
  deep : (path ss i).length ≤ 7
theorem top_path (ss : List StepD) : ∀ i, top (path ss i) = (i : Int) - 1
  | 0 => rfl
  | i + 1 => by show ((i : Nat) : Int) = _; simp
theorem next_chain {ss : List StepD} {i : Nat} (hi : i < ss.length) (hc : Chain (es ss) (path ss i)) (h2 : parOk i (PJ ss i).parent = true) (h3 : ¬ (0 < i ∧ onPath (PJ ss i).parent (path ss i) = false)) : Chain (es ss) (path ss (i + 1)) := by
  have hi' : i < (es ss).length := by rw [es_len]; exact hi
  have hp : (es ss)[i].parent = (PJ ss i).parent := by rw [es_par hi, PJ_eq hi]
  have h := Tr.next_chain (es := es ss) (i := i) (S := path ss i) hc (top_path ss i) hi' (by
    rw [hp]
    intro h4
    rw [par_not.2 h4] at h2
    cases h2) (by rw [hp]; exact h3)
  rw [hp] at h
  exact h
theorem walked {ss : List StepD} : ∀ {i : Nat}, i ≤ ss.length → firstC (oneC ss) i = 0 → Walked ss i
  | 0, _, _ => ⟨trivial, rfl, Nat.zero_le _⟩
  | i + 1, hi, h => by
    have h0 := first_to h (Nat.le_succ i)
    have h1 := of_one (first_all h (Nat.lt_succ_self i))
    have w := walked (by omega) h0
    exact ⟨next_chain (by omega) w.chain h1.2.1 h1.2.2.1, top_path ss _, by omega⟩
/-! ### kids -/
def kidsN (ss : List StepD) (n j : Nat) : List Nat := (List.range n).filter fun i => (PJ ss i).parent == (j : Int)
def kidsL (ss : List StepD) (j : Nat) : List Nat := kidsN ss ss.length j
theorem kidsN_succ (ss : List StepD) (n j : Nat) : kidsN ss (n + 1) j = kidsN ss n j ++ (if (PJ ss n).parent = (j : Int) then [n] else []) := by
  unfold kidsN
  rw [List.range_succ, List.filter_append]
  congr 1
  by_cases h : (PJ ss n).parent = (j : Int)
  · simp [h]
  · simp [h]
theorem kidsN_le (ss : List StepD) (n j : Nat) : (kidsN ss n j).length ≤ n := by
  unfold kidsN
  have := List.length_filter_le (fun i => (PJ ss i).parent == (j : Int)) (List.range n)
  simpa using this
def manyOk (kind : Int) (n : Nat) : Bool := if kind = 1 then decide (1 ≤ n) else if kind = 3 ∨ kind = 4 then decide (2 ≤ n) else if kind = 8 then decide (n = 2) else decide (n = 0)
def lastIs (l : List Nat) (i : Nat) : Bool := l.getLast? == some i
def needs (ss : List StepD) (i : Nat) : Bool := decide (0 ≤ (PJ ss i).parent) && ((PJ ss (PJ ss i).parent.toNat).kind == 3) && !lastIs (kidsL ss (PJ ss i).parent.toNat) i
def linkC (ss : List StepD) (i : Nat) : Int := if manyOk (PJ ss i).kind (kidsL ss i).length = false then 1 else if needs ss i ≠ decide (0 < (PJ ss i).cond.length) then 1 else if 0 < (PJ ss i).cond.length then eFault (PJ ss i).cond else 0
theorem link_many {ss : List StepD} {i : Nat} (h : manyOk (PJ ss i).kind (kidsL ss i).length = false) : linkC ss i = 1 := by unfold linkC; rw [if_pos h]
theorem link_need {ss : List StepD} {i : Nat} (h : manyOk (PJ ss i).kind (kidsL ss i).length = true) (h2 : needs ss i ≠ decide (0 < (PJ ss i).cond.length)) : linkC ss i = 1 := by unfold linkC; rw [if_neg (by simp [h]), if_pos h2]
theorem link_cond {ss : List StepD} {i : Nat} (h : manyOk (PJ ss i).kind (kidsL ss i).length = true) (h2 : needs ss i = decide (0 < (PJ ss i).cond.length)) (h3 : 0 < (PJ ss i).cond.length) : linkC ss i = eFault (PJ ss i).cond := by unfold linkC; rw [if_neg (by simp [h]), if_neg (by simp [h2]), if_pos h3]
theorem link_ok {ss : List StepD} {i : Nat} (h : manyOk (PJ ss i).kind (kidsL ss i).length = true) (h2 : needs ss i = decide (0 < (PJ ss i).cond.length)) (h3 : ¬ 0 < (PJ ss i).cond.length) : linkC ss i = 0 := by unfold linkC; rw [if_neg (by simp [h]), if_neg (by simp [h2]), if_neg h3]
/-! ### types -/
def tyC (e : List NodeD) (want : Int) : Int := if e.length = 0 then 0 else if typeCode e ≠ 0 then typeCode e else if typeVal e ≠ want then 7 else 0
theorem ty_nil {e : List NodeD} {want : Int} (h : e.length = 0) : tyC e want = 0 := by unfold tyC; rw [if_pos h]
theorem ty_code {e : List NodeD} {want : Int} (h : e.length ≠ 0) (h2 : typeCode e ≠ 0) : tyC e want = typeCode e := by unfold tyC; rw [if_neg h, if_pos h2]
theorem ty_type {e : List NodeD} {want : Int} (h : e.length ≠ 0) (h2 : typeCode e = 0) (h3 : typeVal e ≠ want) : tyC e want = 7 := by unfold tyC; rw [if_neg h, if_neg (by simp [h2]), if_pos h3]
theorem ty_ok {e : List NodeD} {want : Int} (h : e.length ≠ 0) (h2 : typeCode e = 0) (h3 : typeVal e = want) : tyC e want = 0 := by unfold tyC; rw [if_neg h, if_neg (by simp [h2]), if_neg (by simp [h3])]
def typC (ss : List StepD) (i : Nat) : Int := if tyC (PJ ss i).cond 2 ≠ 0 then tyC (PJ ss i).cond 2 else tyC (PJ ss i).expr 1
/-! ### all of it -/
def pFault (ss : List StepD) : Int :=
  if ss.length < 1 ∨ 24 < ss.length then 2 else if firstC (oneC ss) ss.length ≠ 0 then firstC (oneC ss) ss.length
  else if firstC (linkC ss) ss.length ≠ 0 then firstC (linkC ss) ss.length else firstC (typC ss) ss.length
theorem p_many {ss : List StepD} (h : ss.length < 1 ∨ 24 < ss.length) : pFault ss = 2 := by unfold pFault; rw [if_pos h]
theorem p_one {ss : List StepD} (h : ¬ (ss.length < 1 ∨ 24 < ss.length)) {i : Nat} (hi : i < ss.length) (h1 : firstC (oneC ss) i = 0) (h2 : oneC ss i ≠ 0) : pFault ss = oneC ss i := by
  have e := first_bad hi h1 h2
  unfold pFault; rw [if_neg h, if_pos (by rw [e]; exact h2), e]
theorem p_link {ss : List StepD} (h : ¬ (ss.length < 1 ∨ 24 < ss.length)) (h0 : firstC (oneC ss) ss.length = 0) {i : Nat} (hi : i < ss.length) (h1 : firstC (linkC ss) i = 0) (h2 : linkC ss i ≠ 0) : pFault ss = linkC ss i := by
  have e := first_bad hi h1 h2
  unfold pFault; rw [if_neg h, if_neg (by simp [h0]), if_pos (by rw [e]; exact h2), e]
theorem p_typ {ss : List StepD} (h : ¬ (ss.length < 1 ∨ 24 < ss.length)) (h0 : firstC (oneC ss) ss.length = 0) (h1 : firstC (linkC ss) ss.length = 0) {i : Nat} (hi : i < ss.length) (h2 : firstC (typC ss) i = 0) (h3 : typC ss i ≠ 0) : pFault ss = typC ss i := by
  have e := first_bad hi h2 h3
  unfold pFault; rw [if_neg h, if_neg (by simp [h0]), if_neg (by simp [h1]), e]
theorem p_ok {ss : List StepD} (h : ¬ (ss.length < 1 ∨ 24 < ss.length)) (h0 : firstC (oneC ss) ss.length = 0) (h1 : firstC (linkC ss) ss.length = 0) (h2 : firstC (typC ss) ss.length = 0) : pFault ss = 0 := by
  unfold pFault; rw [if_neg h, if_neg (by simp [h0]), if_neg (by simp [h1]), h2]
theorem of_p {ss : List StepD} (h : pFault ss = 0) : ¬ (ss.length < 1 ∨ 24 < ss.length) ∧ firstC (oneC ss) ss.length = 0 ∧ firstC (linkC ss) ss.length = 0 ∧ firstC (typC ss) ss.length = 0 := by
  unfold pFault at h
  by_cases h0 : ss.length < 1 ∨ 24 < ss.length
  · rw [if_pos h0] at h; omega
  rw [if_neg h0] at h
  by_cases h1 : firstC (oneC ss) ss.length ≠ 0
  · rw [if_pos h1] at h; exact absurd h h1
  rw [if_neg h1] at h
  by_cases h2 : firstC (linkC ss) ss.length ≠ 0
  · rw [if_pos h2] at h; exact absurd h h2
  rw [if_neg h2] at h
  exact ⟨h0, by simpa using h1, by simpa using h2, h⟩
/-- The parent of a step where nothing was found. -/
theorem par_lt {ss : List StepD} {i : Nat} (h : oneC ss i = 0) : (PJ ss i).parent < i ∧ -1 ≤ (PJ ss i).parent := by
  have h2 := (of_one h).2.1
  unfold parOk at h2
  by_cases h0 : i = 0
  · rw [if_pos h0] at h2
    have : (PJ ss i).parent = -1 := beq_iff_eq.1 h2
    omega
  · rw [if_neg h0] at h2
    have := Ex.inR_iff.1 h2
    omega
end Pf
end Go.Proofs.YtccklgopcjilcaaGreatDoor
/- What is wrong with a name, as the specification and as the program tell it. -/
namespace Go.Proofs.YtccklgopcjilcaaGreatDoor
open Go.RowKit
set_option linter.unusedVariables false
namespace Tr
theorem take_snoc (s : ByteArray) (k : Nat) (h : k < s.size) : s.data.toList.take (k + 1) = s.data.toList.take k ++ [s[k]] := by
  rw [List.take_succ_eq_append_getElem (by simpa using h)]; rfl
theorem az_no (s : ByteArray) (k : Nat) (h : k < s.size) (hn : azByte s[k] = false) : azAll s.data.toList = false := by
  unfold azAll
  rw [List.all_eq_false]
  refine ⟨s[k], ?_, by simp [hn]⟩
  exact List.getElem_mem (l := s.data.toList) (by simpa using h)
theorem az_snoc (s : ByteArray) (k : Nat) (h : k < s.size) (ha : azAll (s.data.toList.take k) = true) (hy : azByte s[k] = true) : azAll (s.data.toList.take (k + 1)) = true := by
  rw [take_snoc s k h]; unfold azAll at *; rw [List.all_append, ha]; simp [hy]
theorem az_end (s : ByteArray) (k : Nat) (h : ¬ k < s.size) (ha : azAll (s.data.toList.take k) = true) : azAll s.data.toList = true := by
  rw [List.take_of_length_le (by simp; omega)] at ha; exact ha
theorem len_size (s : ByteArray) : s.data.toList.length = s.size := by simp
theorem nf_no {s : ByteArray} (h : azAll s.data.toList = false) : nf s.data.toList = 5 := by unfold nf; simp [h]
theorem nf_nil {s : ByteArray} (h : s.size = 0) : nf s.data.toList = 5 := by unfold nf; rw [len_size]; simp [h]
theorem nf_many {s : ByteArray} (h : azAll s.data.toList = true) (h0 : s.size ≠ 0) (h8 : 8 < s.size) : nf s.data.toList = 2 := by unfold nf; rw [len_size]; rw [if_neg (by simp [h]), if_neg h0, if_pos h8]
theorem nf_ok {s : ByteArray} (h : azAll s.data.toList = true) (h0 : s.size ≠ 0) (h8 : ¬ 8 < s.size) : nf s.data.toList = 0 := by unfold nf; rw [len_size, if_neg (by simp [h]), if_neg h0, if_neg h8]
theorem ne_nil {s : ByteArray} (h : s.size ≠ 0) : s.toList.isEmpty = false := by
  rw [ByteArray.toList_eq, List.isEmpty_eq_false_iff]; intro e; apply h; rw [← len_size, e]; rfl
theorem is_nil {s : ByteArray} (h : s.size = 0) : s = { data := #[] } := by
  cases s with | mk d => congr; exact Array.eq_empty_of_size_eq_zero h

set_option maxRecDepth 100000 in
set_option maxHeartbeats 400000 in
theorem spec_nf1 (s : ByteArray) (w : World) (hs : s.size ≤ maxLen) :
    Calls Tryz.prog 218 #[.string s] w fun e w' => e = .returned (.int .i64 (nf s.data.toList)) ∧ w' = w := by
  unfold maxLen at hs
  go_enter Tryz.func218, Tryz.ntmps218
  go_wp2
  go_loop [3] (fun i => ∃ k : Nat, k ≤ s.size ∧ i = .int .i64 k ∧ azAll (s.data.toList.take k) = true) (fun i => s.size - (intOf i).toNat)
  case atStart => exact ⟨0, Nat.zero_le _, rfl, rfl⟩
  case round =>
    obtain ⟨k, hk, rfl, ha⟩ := hrel
    have HA : Hid (azAll (s.data.toList.take k) = true) := ha
    clear ha
    by_cases hlt : k < s.size
    · by_cases h97 : (s[k].toNat : Int) < 97
      · have HS : Hid (nf s.data.toList = 5) := nf_no (az_no s k hlt (by simp [azByte]; omega))
        go_wp2
        go_ret
        exact ⟨by rw [HS.out]; rfl, rfl⟩
      · by_cases h122 : (s[k].toNat : Int) > 122
        · have HS : Hid (nf s.data.toList = 5) := nf_no (az_no s k hlt (by simp [azByte]; omega))
          go_wp2
          go_ret
          exact ⟨by rw [HS.out]; rfl, rfl⟩
        · have HS : Hid (azAll (s.data.toList.take (k + 1)) = true) := az_snoc s k hlt HA.out (by simp [azByte]; omega)
          go_wp2
          exact ⟨⟨k + 1, by omega, by go_num, HS.out⟩, by simp [intOf]; omega⟩
    · have hall := az_end s k hlt HA.out
      by_cases h0 : s.size = 0
      · have HS : Hid (nf s.data.toList = 5) := nf_nil h0
        have hb : s.toList.isEmpty = true := by rw [is_nil h0, ByteArray.toList_eq]; rfl
        clear hall
        go_wp2
        go_ret
        exact ⟨by rw [HS.out]; rfl, rfl⟩
      · have hb := ne_nil h0
        by_cases h8 : 8 < s.size
        · have HS : Hid (nf s.data.toList = 2) := nf_many hall h0 h8
          clear hall
          go_wp2
          go_ret
          exact ⟨by rw [HS.out]; rfl, rfl⟩
        · have HS : Hid (nf s.data.toList = 0) := nf_ok hall h0 h8
          clear hall
          go_wp2
          go_ret
          exact ⟨by rw [HS.out]; rfl, rfl⟩

set_option maxRecDepth 100000 in
set_option maxHeartbeats 400000 in
theorem impl_nf (s : ByteArray) (w : World) (hs : s.size ≤ maxLen) :
    Calls Tryz.prog 233 #[.string s] w fun e w' => e = .returned (.int .i64 (nf s.data.toList)) ∧ w' = w := by
  unfold maxLen at hs
  by_cases h0 : s.size = 0
  · have HS : Hid (nf s.data.toList = 5) := nf_nil h0
    have hb : s.toList.isEmpty = true := by rw [is_nil h0, ByteArray.toList_eq]; rfl
    go_enter Tryz.func233, Tryz.ntmps233
    go_wp2
    go_ret
    exact ⟨by rw [HS.out]; rfl, rfl⟩
  have hb := ne_nil h0
  go_enter Tryz.func233, Tryz.ntmps233
  go_wp2
  go_loop [8] (fun i => ∃ k : Nat, k ≤ s.size ∧ i = .int .i64 k ∧ azAll (s.data.toList.take k) = true) (fun i => s.size - (intOf i).toNat)
  case atStart => exact ⟨0, Nat.zero_le _, rfl, rfl⟩
  case round =>
    obtain ⟨k, hk, rfl, ha⟩ := hrel
    have HA : Hid (azAll (s.data.toList.take k) = true) := ha
    clear ha
    by_cases hlt : k < s.size
    · by_cases h97 : (s[k].toNat : Int) < 97
      · have HS : Hid (nf s.data.toList = 5) := nf_no (az_no s k hlt (by simp [azByte]; omega))
        go_wp2
        go_ret
        exact ⟨by rw [HS.out]; rfl, rfl⟩
      · by_cases h122 : (s[k].toNat : Int) > 122
        · have HS : Hid (nf s.data.toList = 5) := nf_no (az_no s k hlt (by simp [azByte]; omega))
          go_wp2
          go_ret
          exact ⟨by rw [HS.out]; rfl, rfl⟩
        · have HS : Hid (azAll (s.data.toList.take (k + 1)) = true) := az_snoc s k hlt HA.out (by simp [azByte]; omega)
          go_wp2
          exact ⟨⟨k + 1, by omega, by go_num, HS.out⟩, by simp [intOf]; omega⟩
    · have hall := az_end s k hlt HA.out
      by_cases h8 : 8 < s.size
      · have HS : Hid (nf s.data.toList = 2) := nf_many hall h0 h8
        clear hall
        go_wp2
        go_ret
        exact ⟨by rw [HS.out]; rfl, rfl⟩
      · have HS : Hid (nf s.data.toList = 0) := nf_ok hall h0 h8
        clear hall
        go_wp2
        go_ret
        exact ⟨by rw [HS.out]; rfl, rfl⟩
end Tr
end Go.Proofs.YtccklgopcjilcaaGreatDoor
