/- Laid together: KfM, EgM, KcA, KcB. -/
import Derived.Test.YtccklgopcjilcaaGreatDoorJNW36
import Derived.Test.YtccklgopcjilcaaGreatDoorJNW13
import Derived.Test.YtccklgopcjilcaaGreatDoorJNW21
import Derived.Test.YtccklgopcjilcaaGreatDoorJNW34
import Derived.Laws.IdiomCopy
import Derived.Deep.MidRow
import Derived.Deep.Upon
/- The fault of a chart, told plainly. -/
namespace Go.Proofs.YtccklgopcjilcaaGreatDoor
set_option linter.unusedVariables false
namespace Kc
open Ex (inR evalCode evalVal vFault hid)
open St (StepD)
open Ch (RunD)
open Pf
def fA (r : RunD) : Nat → Int := fun i => r.marks.getD i 0
def fD (r : RunD) : Nat → Int := fun i => r.dues.getD i 0
theorem fA_eq {r : RunD} {i : Nat} (h : i < r.marks.length) : fA r i = r.marks[i] := by unfold fA; rw [List.getD_eq_getElem?_getD, List.getElem?_eq_getElem h]; rfl
theorem fD_eq {r : RunD} {i : Nat} (h : i < r.dues.length) : fD r i = r.dues[i] := by unfold fD; rw [List.getD_eq_getElem?_getD, List.getElem?_eq_getElem h]; rfl
def within (l : List Int) (m : Int) : Bool := l.all fun x => inR x 0 m
def stateC (st now : Int) (vars : List Int) : Int := if inR st 1 3 = false then 3 else if inR now 0 1000000 = false then 3 else vFault vars
def numC (n : Nat) (r : RunD) : Int :=
  if stateC r.status r.now r.vars ≠ 0 then stateC r.status r.now r.vars else if r.marks.length ≠ n then 2 else if r.dues.length ≠ n then 2 else if within r.marks 2 = false then 3 else if within r.dues (r.now + 99) = false then 3 else 0
def cntK (A : Nat → Int) (l : List Nat) (v : Int) : Nat := (l.filter fun j => A j == v).length
theorem cntK_nil (A : Nat → Int) (v : Int) : cntK A [] v = 0 := rfl
theorem cntK_snoc (A : Nat → Int) (l : List Nat) (j : Nat) (v : Int) : cntK A (l ++ [j]) v = cntK A l v + (if A j = v then 1 else 0) := by
  unfold cntK
  rw [List.filter_append, List.length_append]
  by_cases h : A j = v <;> simp [h]
theorem cntK_le (A : Nat → Int) (l : List Nat) (v : Int) : cntK A l v ≤ l.length := List.length_filter_le _ _
theorem cntK_two (A : Nat → Int) : ∀ (l : List Nat), cntK A l 1 + cntK A l 2 ≤ l.length
  | [] => Nat.le_refl _
  | a :: l => by
    have := cntK_two A l
    unfold cntK at this ⊢
    simp only [List.filter_cons, List.length_cons]
    by_cases h1 : A a = 1
    · simp [h1]; omega
    · by_cases h2 : A a = 2
      · simp [h2]; omega
      · simp [h1, h2]; omega
/-- Does what is on at a step not go with its kids, or with its due? (as the specification asks it) -/
def wrongP (ss : List StepD) (A D : Nat → Int) (k : Nat) : Bool :=
  if A k ≠ 1 then decide (0 < cntK A (kidsL ss k) 1 + cntK A (kidsL ss k) 2) || (D k != 0)
  else if (PJ ss k).kind = 1 ∨ (PJ ss k).kind = 3 then (cntK A (kidsL ss k) 1 != 1) || decide (0 < cntK A (kidsL ss k) 2) || (D k != 0)
  else if (PJ ss k).kind = 4 then decide (cntK A (kidsL ss k) 1 < 1) || (cntK A (kidsL ss k) 1 + cntK A (kidsL ss k) 2 != (kidsL ss k).length) || (D k != 0)
  else if (PJ ss k).kind = 8 then (cntK A (kidsL ss k) 1 != 1) || decide (0 < cntK A (kidsL ss k) 2) || ((D k != 0) != (A (kid ss k 0) == 1))
  else if (PJ ss k).kind = 6 then !(D k != 0)
  else if (PJ ss k).kind = 7 then true
  else (D k != 0)
def zeros (l : List Int) : Bool := l.all fun x => x == 0
def fitsP (ss : List StepD) (r : RunD) : Bool :=
  if r.status ≠ 1 then zeros r.marks && zeros r.dues else (fA r 0 == 1) && (List.range ss.length).all fun k => !wrongP ss (fA r) (fD r) k
def chartC (ss : List StepD) (r : RunD) : Int :=
  if pFault ss ≠ 0 then pFault ss else if numC ss.length r ≠ 0 then numC ss.length r else if fitsP ss r = true then 0 else 1
theorem c_proc {ss : List StepD} {r : RunD} (h : pFault ss ≠ 0) : chartC ss r = pFault ss := by unfold chartC; rw [if_pos h]
theorem c_num {ss : List StepD} {r : RunD} (h : pFault ss = 0) (h2 : numC ss.length r ≠ 0) : chartC ss r = numC ss.length r := by unfold chartC; rw [if_neg (by simp [h]), if_pos h2]
theorem c_form {ss : List StepD} {r : RunD} (h : pFault ss = 0) (h2 : numC ss.length r = 0) (h3 : fitsP ss r = false) : chartC ss r = 1 := by unfold chartC; rw [if_neg (by simp [h]), if_neg (by simp [h2]), if_neg (by simp [h3])]
theorem c_ok {ss : List StepD} {r : RunD} (h : pFault ss = 0) (h2 : numC ss.length r = 0) (h3 : fitsP ss r = true) : chartC ss r = 0 := by unfold chartC; rw [if_neg (by simp [h]), if_neg (by simp [h2]), if_pos h3]
theorem of_c {ss : List StepD} {r : RunD} (h : chartC ss r = 0) : pFault ss = 0 ∧ numC ss.length r = 0 ∧ fitsP ss r = true := by
  by_cases h1 : pFault ss = 0
  · by_cases h2 : numC ss.length r = 0
    · cases h3 : fitsP ss r
      · rw [c_form h1 h2 h3] at h; cases h
      · exact ⟨h1, h2, rfl⟩
    · rw [c_num h1 h2] at h; exact absurd h h2
  · rw [c_proc h1] at h; exact absurd h h1
theorem num_state {n : Nat} {r : RunD} (h : stateC r.status r.now r.vars ≠ 0) : numC n r = stateC r.status r.now r.vars := by unfold numC; rw [if_pos h]
theorem num_len {n : Nat} {r : RunD} (h : stateC r.status r.now r.vars = 0) (h2 : ¬ (r.marks.length = n ∧ r.dues.length = n)) : numC n r = 2 := by
  unfold numC
  rw [if_neg (by simp [h])]
  by_cases h3 : r.marks.length = n
  · rw [if_neg (by simp [h3]), if_pos (fun e => h2 ⟨h3, e⟩)]
  · rw [if_pos h3]
theorem num_range {n : Nat} {r : RunD} (h : stateC r.status r.now r.vars = 0) (h1 : r.marks.length = n) (h2 : r.dues.length = n) (h3 : (within r.marks 2 && within r.dues (r.now + 99)) = false) : numC n r = 3 := by
  unfold numC
  rw [if_neg (by simp [h]), if_neg (by simp [h1]), if_neg (by simp [h2])]
  cases h4 : within r.marks 2
  · rw [if_pos rfl]
  · rw [h4] at h3
    rw [if_neg (by simp), if_pos (by simpa using h3)]
theorem num_ok {n : Nat} {r : RunD} (h : stateC r.status r.now r.vars = 0) (h1 : r.marks.length = n) (h2 : r.dues.length = n) (h3 : within r.marks 2 = true) (h4 : within r.dues (r.now + 99) = true) : numC n r = 0 := by
  unfold numC
  rw [if_neg (by simp [h]), if_neg (by simp [h1]), if_neg (by simp [h2]), if_neg (by simp [h3]), if_neg (by simp [h4])]
theorem of_num {n : Nat} {r : RunD} (h : numC n r = 0) : stateC r.status r.now r.vars = 0 ∧ r.marks.length = n ∧ r.dues.length = n ∧ within r.marks 2 = true ∧ within r.dues (r.now + 99) = true := by
  by_cases h1 : stateC r.status r.now r.vars = 0
  · by_cases h2 : r.marks.length = n ∧ r.dues.length = n
    · cases h3 : (within r.marks 2 && within r.dues (r.now + 99))
      · rw [num_range h1 h2.1 h2.2 h3] at h; cases h
      · simp only [Bool.and_eq_true] at h3
        exact ⟨h1, h2.1, h2.2, h3.1, h3.2⟩
    · rw [num_len h1 h2] at h; cases h
  · rw [num_state h1] at h; exact absurd h h1
theorem st_status {st now : Int} {vars : List Int} (h : inR st 1 3 = false) : stateC st now vars = 3 := by unfold stateC; rw [if_pos h]
theorem st_now {st now : Int} {vars : List Int} (h : inR st 1 3 = true) (h2 : inR now 0 1000000 = false) : stateC st now vars = 3 := by unfold stateC; rw [if_neg (by simp [h]), if_pos h2]
theorem st_vars {st now : Int} {vars : List Int} (h : inR st 1 3 = true) (h2 : inR now 0 1000000 = true) : stateC st now vars = vFault vars := by unfold stateC; rw [if_neg (by simp [h]), if_neg (by simp [h2])]
theorem of_state {st now : Int} {vars : List Int} (h : stateC st now vars = 0) : inR st 1 3 = true ∧ inR now 0 1000000 = true ∧ vFault vars = 0 := by
  cases h1 : inR st 1 3
  · rw [st_status h1] at h; cases h
  · cases h2 : inR now 0 1000000
    · rw [st_now h1 h2] at h; cases h
    · exact ⟨rfl, rfl, (st_vars h1 h2) ▸ h⟩
theorem within_take {l : List Int} {m : Int} {i : Nat} (hi : i < l.length) : within (l.take (i + 1)) m = (within (l.take i) m && inR l[i] 0 m) := by
  unfold within
  rw [List.take_succ_eq_append_getElem hi, List.all_append]
  simp
theorem within_all {l : List Int} {m : Int} (h : within l m = true) {i : Nat} (hi : i < l.length) : 0 ≤ l[i] ∧ l[i] ≤ m := by
  unfold within at h
  rw [List.all_eq_true] at h
  exact Ex.inR_iff.1 (h _ (List.getElem_mem hi))
theorem within_bad {l : List Int} {m : Int} {i : Nat} (hi : i < l.length) (h : inR l[i] 0 m = false) : within l m = false := by
  unfold within
  rw [List.all_eq_false]
  exact ⟨_, List.getElem_mem hi, by simp [h]⟩
theorem zeros_take {l : List Int} {i : Nat} (hi : i < l.length) : zeros (l.take (i + 1)) = (zeros (l.take i) && (l[i] == 0)) := by
  unfold zeros
  rw [List.take_succ_eq_append_getElem hi, List.all_append]
  simp
theorem kids_none {ss : List StepD} {k : Nat} (hp : pFault ss = 0) (hk : k < ss.length) (h : (PJ ss k).kind = 2 ∨ (PJ ss k).kind = 5 ∨ (PJ ss k).kind = 6 ∨ (PJ ss k).kind = 7) : kidsL ss k = [] := by
  have := many hp hk
  rcases h with h | h | h | h <;> rw [h] at this <;> simpa [manyOk] using this
theorem kind_in {ss : List StepD} {k : Nat} (hp : pFault ss = 0) (hk : k < ss.length) : 1 ≤ (PJ ss k).kind ∧ (PJ ss k).kind ≤ 8 := by
  have h := (of_one (first_all (of_p hp).2.1 hk)).1
  unfold formOk at h
  simp only [Bool.and_eq_true] at h
  exact Ex.inR_iff.1 h.1
/-- The same, as the program asks it. -/
def rightKids (ss : List StepD) (A : Nat → Int) (k : Nat) : Bool :=
  if (kidsL ss k).length = 0 then true
  else if A k ≠ 1 then (cntK A (kidsL ss k) 1 == 0) && (cntK A (kidsL ss k) 2 == 0)
  else if (PJ ss k).kind = 4 then decide (0 < cntK A (kidsL ss k) 1) && (cntK A (kidsL ss k) 1 + cntK A (kidsL ss k) 2 == (kidsL ss k).length)
  else (cntK A (kidsL ss k) 1 == 1) && (cntK A (kidsL ss k) 2 == 0)
def rightDue (ss : List StepD) (A D : Nat → Int) (k : Nat) : Bool :=
  if (PJ ss k).kind = 6 then (D k != 0) == (A k == 1)
  else if (PJ ss k).kind = 8 then (D k != 0) == (A (kid ss k 0) == 1)
  else !(D k != 0)
def badP (ss : List StepD) (A D : Nat → Int) (k : Nat) : Bool := ((PJ ss k).kind == 7 && A k == 1) || !rightKids ss A k || !rightDue ss A D k
theorem cnt_pos {A : Nat → Int} {l : List Nat} {j : Nat} {v : Int} (hj : j ∈ l) (h : A j = v) : 0 < cntK A l v := by
  unfold cntK
  exact List.length_pos_of_mem (List.mem_filter.2 ⟨hj, by simp [h]⟩)
theorem bad_wrong' (kind ak a0 dk : Int) (on ov n : Nat) (h1 : 1 ≤ kind) (h8 : kind ≤ 8) (hn : kind = 1 ∨ kind = 3 ∨ kind = 4 ∨ kind = 8 → n ≠ 0) (hz : kind = 2 ∨ kind = 5 ∨ kind = 6 ∨ kind = 7 → n = 0 ∧ on = 0 ∧ ov = 0) (h0 : kind = 8 → a0 = 1 → 0 < on) :
    ((kind == 7 && ak == 1) || !(if n = 0 then true else if ak ≠ 1 then (on == 0) && (ov == 0) else if kind = 4 then decide (0 < on) && (on + ov == n) else (on == 1) && (ov == 0)) || !(if kind = 6 then (dk != 0) == (ak == 1) else if kind = 8 then (dk != 0) == (a0 == 1) else !(dk != 0))) =
    (if ak ≠ 1 then decide (0 < on + ov) || (dk != 0) else if kind = 1 ∨ kind = 3 then (on != 1) || decide (0 < ov) || (dk != 0) else if kind = 4 then decide (on < 1) || (on + ov != n) || (dk != 0) else if kind = 8 then (on != 1) || decide (0 < ov) || ((dk != 0) != (a0 == 1)) else if kind = 6 then !(dk != 0) else if kind = 7 then true else (dk != 0)) := by
  have c8 : kind = 1 ∨ kind = 3 ∨ kind = 4 ∨ kind = 8 ∨ kind = 2 ∨ kind = 5 ∨ kind = 6 ∨ kind = 7 := by omega
  rw [Bool.eq_iff_iff]
  obtain ⟨pa, ea⟩ : ∃ pa, pa = (ak == 1) := ⟨_, rfl⟩
  obtain ⟨pd, ed⟩ : ∃ pd, pd = (dk != 0) := ⟨_, rfl⟩
  obtain ⟨px, ex⟩ : ∃ px, px = (a0 == 1) := ⟨_, rfl⟩
  rw [← ea, ← ed, ← ex]
  have fa : ak = 1 ↔ pa = true := by rw [ea]; simp
  have fx : a0 = 1 ↔ px = true := by rw [ex]; simp
  rw [fx] at h0
  simp only [ne_eq, fa]
  clear ea ed ex fa fx
  cases pa <;> cases pd <;> cases px
  all_goals
    rcases c8 with rfl | rfl | rfl | rfl | rfl | rfl | rfl | rfl
  all_goals
    simp at hn hz h0 ⊢
  all_goals
    first | omega | (simp [hn]; done) | (simp [hn]; omega) | (simp [hz]; done) | (simp [hz]; omega) | skip
theorem bad_wrong {ss : List StepD} (A D : Nat → Int) {k : Nat} (hp : pFault ss = 0) (hk : k < ss.length) : badP ss A D k = wrongP ss A D k := by
  obtain ⟨h1, h8⟩ := kind_in hp hk
  unfold badP wrongP rightKids rightDue
  refine bad_wrong' _ _ _ _ _ _ _ h1 h8 (fun h => ?_) (fun h => ?_) (fun h ha => ?_)
  · rcases h with h | h | h | h
    · have := kids_seq hp hk h; omega
    · have := kids_two hp hk (.inl h); omega
    · have := kids_two hp hk (.inr h); omega
    · have := kids_guard hp hk h; omega
  · rw [kids_none hp hk h]
    exact ⟨rfl, rfl, rfl⟩
  · have := kids_guard hp hk h
    exact cnt_pos (kid_in (by omega)) ha
end Kc
end Go.Proofs.YtccklgopcjilcaaGreatDoor
/- The fault of an engine, plainly. -/
namespace Go.Proofs.YtccklgopcjilcaaGreatDoor
open Go.RowKit Go.Deep
set_option linter.unusedVariables false
namespace Eg
open St (StepD)
open Ei (InstD)
open En (EngD)
open Kc (chartC)
open Pf (pFault)
open Ex (inR)
def firstNZ {α : Type} (f : α → Int) : List α → Int
  | [] => 0
  | a :: l => if f a ≠ 0 then f a else firstNZ f l
theorem nz_step {α : Type} {f : α → Int} {l : List α} {k : Nat} (h : k < l.length) : firstNZ f (l.drop k) = if f l[k] ≠ 0 then f l[k] else firstNZ f (l.drop (k + 1)) := by
  rw [List.drop_eq_getElem_cons h]; rfl
theorem nz_bad {α : Type} {f : α → Int} {l : List α} {k : Nat} (h : k < l.length) (h1 : f l[k] ≠ 0) : firstNZ f (l.drop k) = f l[k] := by rw [nz_step h, if_pos h1]
theorem nz_next {α : Type} {f : α → Int} {l : List α} {k : Nat} (h : k < l.length) (h1 : f l[k] = 0) : firstNZ f (l.drop k) = firstNZ f (l.drop (k + 1)) := by rw [nz_step h, if_neg (by simp [h1])]
theorem nz_end {α : Type} {f : α → Int} {l : List α} {k : Nat} (h : l.length ≤ k) : firstNZ f (l.drop k) = 0 := by rw [List.drop_eq_nil_of_le h]; rfl
theorem nz_all {α : Type} {f : α → Int} : ∀ {l : List α}, firstNZ f l = 0 → ∀ a ∈ l, f a = 0
  | [], _, a, h => by cases h
  | b :: l, h, a, ha => by
    unfold firstNZ at h
    by_cases hb : f b = 0
    · rw [if_neg (by simp [hb])] at h
      rcases List.mem_cons.1 ha with rfl | h2
      · exact hb
      · exact nz_all h a h2
    · rw [if_pos hb] at h; exact absurd h hb
def procsC (ps : List (List StepD)) : Int := if ps.length < 1 ∨ 3 < ps.length then 2 else firstNZ pFault ps
def stepsD (e : EngD) (p : Int) : List StepD := e.procs[p.toNat]?.getD []
theorem stepsD_eq {e : EngD} {p : Int} (h : p.toNat < e.procs.length) : stepsD e p = e.procs[p.toNat] := by unfold stepsD; rw [List.getElem?_eq_getElem h, Option.getD_some]
def hasP (e : EngD) (p : Int) : Bool := inR p 0 ((e.procs.length : Int) - 1)
theorem hasP_in {e : EngD} {p : Int} (h : hasP e p = true) : 0 ≤ p ∧ p.toNat < e.procs.length ∧ p < (e.procs.length : Int) := by
  unfold hasP inR at h; simp at h; omega
def instC (e : EngD) (i : InstD) : Int :=
  if hasP e i.proc = true then (if chartC (stepsD e i.proc) i.chart ≠ 0 then chartC (stepsD e i.proc) i.chart else if i.chart.now = e.now then 0 else 9) else 3
theorem i_range {e : EngD} {i : InstD} (h : hasP e i.proc = false) : instC e i = 3 := by unfold instC; rw [if_neg (by simp [h])]
theorem i_chart {e : EngD} {i : InstD} (h : hasP e i.proc = true) (h2 : chartC (stepsD e i.proc) i.chart ≠ 0) : instC e i = chartC (stepsD e i.proc) i.chart := by unfold instC; rw [if_pos h, if_pos h2]
theorem i_state {e : EngD} {i : InstD} (h : hasP e i.proc = true) (h2 : chartC (stepsD e i.proc) i.chart = 0) (h3 : i.chart.now ≠ e.now) : instC e i = 9 := by unfold instC; rw [if_pos h, if_neg (by simp [h2]), if_neg h3]
theorem i_ok {e : EngD} {i : InstD} (h : hasP e i.proc = true) (h2 : chartC (stepsD e i.proc) i.chart = 0) (h3 : i.chart.now = e.now) : instC e i = 0 := by unfold instC; rw [if_pos h, if_neg (by simp [h2]), if_pos h3]
theorem of_i {e : EngD} {i : InstD} (h : instC e i = 0) : hasP e i.proc = true ∧ chartC (stepsD e i.proc) i.chart = 0 ∧ i.chart.now = e.now := by
  unfold instC at h
  by_cases h1 : hasP e i.proc = true
  · rw [if_pos h1] at h
    by_cases h2 : chartC (stepsD e i.proc) i.chart = 0
    · rw [if_neg (by simp [h2])] at h
      by_cases h3 : i.chart.now = e.now
      · exact ⟨h1, h2, h3⟩
      · rw [if_neg h3] at h; omega
    · rw [if_pos h2] at h; exact absurd h h2
  · rw [if_neg h1] at h; omega
def engC (e : EngD) : Int := if 6 < e.insts.length then 2 else if procsC e.procs ≠ 0 then procsC e.procs else if inR e.now 0 1000000 = true then firstNZ (instC e) e.insts else 3
theorem p_many {ps : List (List StepD)} (h : ps.length < 1 ∨ 3 < ps.length) : procsC ps = 2 := by unfold procsC; rw [if_pos h]
theorem p_few {ps : List (List StepD)} (h : ¬ (ps.length < 1 ∨ 3 < ps.length)) : procsC ps = firstNZ pFault ps := by unfold procsC; rw [if_neg h]
theorem e_many {e : EngD} (h : e.procs.length < 1 ∨ 3 < e.procs.length ∨ 6 < e.insts.length) : engC e = 2 := by
  unfold engC
  by_cases h1 : 6 < e.insts.length
  · rw [if_pos h1]
  · rw [if_neg h1, p_many (by omega), if_pos (by omega)]
theorem e_proc {e : EngD} (h : ¬ 6 < e.insts.length) (h2 : procsC e.procs ≠ 0) : engC e = procsC e.procs := by unfold engC; rw [if_neg h, if_pos h2]
theorem e_now {e : EngD} (h : ¬ 6 < e.insts.length) (h2 : procsC e.procs = 0) (h3 : inR e.now 0 1000000 = false) : engC e = 3 := by unfold engC; rw [if_neg h, if_neg (by simp [h2]), if_neg (by simp [h3])]
theorem e_inst {e : EngD} (h : ¬ 6 < e.insts.length) (h2 : procsC e.procs = 0) (h3 : inR e.now 0 1000000 = true) : engC e = firstNZ (instC e) e.insts := by unfold engC; rw [if_neg h, if_neg (by simp [h2]), if_pos h3]
theorem of_e {e : EngD} (h : engC e = 0) : e.insts.length ≤ 6 ∧ (1 ≤ e.procs.length ∧ e.procs.length ≤ 3) ∧ firstNZ pFault e.procs = 0 ∧ inR e.now 0 1000000 = true ∧ firstNZ (instC e) e.insts = 0 := by
  by_cases h1 : 6 < e.insts.length
  · rw [e_many (by omega)] at h; omega
  · by_cases h2 : procsC e.procs = 0
    · by_cases h4 : e.procs.length < 1 ∨ 3 < e.procs.length
      · rw [p_many h4] at h2; omega
      · cases h3 : inR e.now 0 1000000 with
        | false => rw [e_now h1 h2 h3] at h; omega
        | true => rw [e_inst h1 h2 h3] at h; rw [p_few h4] at h2; exact ⟨by omega, by omega, h2, rfl, h⟩
    · rw [e_proc h1 h2] at h; exact absurd h h2
end Eg
end Go.Proofs.YtccklgopcjilcaaGreatDoor
/- A chart under way in the program's memory: one block of 55 cells. -/
namespace Go.Proofs.YtccklgopcjilcaaGreatDoor
open Go.RowKit Go.Deep
set_option linter.unusedVariables false
namespace Kc
open Ex (inR evalCode evalVal vFault hid)
open St (StepD)
open Ch (RunD)
open Pf
def kval (u : Value) (s : CS) (j : Nat) : Value :=
  if j = 0 then u else if j = 1 then .int .i64 s.status else if j = 2 then .int .i64 s.now else if j < 7 then .int .i64 (s.vars.getD (j - 3) 0) else if j < 31 then .int .i64 (s.acts (j - 7)) else .int .i64 (s.dues (j - 31))
def kcs (u : Value) (s : CS) : List Value := (List.range 55).map (kval u s)
theorem kcs_len (u : Value) (s : CS) : (kcs u s).length = 55 := by simp [kcs]
theorem kcs_get {u : Value} {s : CS} {j : Nat} (h : j < 55) : (kcs u s)[j]? = some (kval u s j) := by
  unfold kcs
  rw [List.getElem?_map, List.getElem?_range h]
  rfl
theorem kcs_set {u : Value} {s s' : CS} {j : Nat} {v : Value} (h1 : j < 55) (h : ∀ i, i < 55 → kval u s' i = if j = i then v else kval u s i) : (kcs u s).set j v = kcs u s' := by
  refine List.ext_getElem? fun i => ?_
  rw [List.getElem?_set, kcs_len]
  rcases Nat.lt_or_ge i 55 with hi | hi
  · rw [kcs_get hi, kcs_get hi, h i hi]
    split <;> rfl
  · rw [if_neg (by omega), List.getElem?_eq_none (by rw [kcs_len]; exact hi), List.getElem?_eq_none (by rw [kcs_len]; exact hi)]
structure KAt (wg w : World) (R : Nat) (u : Value) (ss : List StepD) (s : CS) : Prop where
  st : PAt wg ss u
  cap : capOk u
  bel : Below wg.heap.size wg w
  old : wg.heap.size ≤ R
  blk : w.heap[R]? = some (.cells (kcs u s).toArray 129)
  len : s.vars.length = 4
  pad : ∀ i, ss.length ≤ i → s.acts i = 0 ∧ s.dues i = 0
theorem KAt.below {wg w w' : World} {R : Nat} {u : Value} {ss : List StepD} {s : CS} (h : KAt wg w R u ss s) (hb : Below w.heap.size w w') : KAt wg w' R u ss s :=
  ⟨h.st, h.cap, h.bel.trans (hb.mono h.bel.size), h.old, (hb.block R (Array.getElem?_eq_some_iff.1 h.blk).1).trans h.blk, h.len, h.pad⟩
theorem KAt.lt {wg w : World} {R : Nat} {u : Value} {ss : List StepD} {s : CS} (h : KAt wg w R u ss s) : R < w.heap.size := (Array.getElem?_eq_some_iff.1 h.blk).1
theorem KAt.cell {wg w : World} {R : Nat} {u : Value} {ss : List StepD} {s : CS} (h : KAt wg w R u ss s) {j : Nat} (hj : j < 55) : w.cell? ⟨R, j, none⟩ = some (kval u s j) := by
  have := kcs_get (u := u) (s := s) hj
  simp only [World.cell?, h.blk, Option.isSome_none, Bool.false_eq_true, if_false]
  simpa using this
theorem KAt.free {wg w : World} {R : Nat} {u : Value} {ss : List StepD} {s : CS} (h : KAt wg w R u ss s) (j : Nat) : w.frozen? ⟨R, j, none⟩ = false := by simp [World.frozen?, h.blk]
theorem KAt.c0 {wg w : World} {R : Nat} {u : Value} {ss : List StepD} {s : CS} (h : KAt wg w R u ss s) : w.cell? ⟨R, 0, none⟩ = some u := h.cell (by decide)
theorem KAt.c1 {wg w : World} {R : Nat} {u : Value} {ss : List StepD} {s : CS} (h : KAt wg w R u ss s) : w.cell? ⟨R, 1, none⟩ = some (.int .i64 s.status) := h.cell (by decide)
theorem KAt.c2 {wg w : World} {R : Nat} {u : Value} {ss : List StepD} {s : CS} (h : KAt wg w R u ss s) : w.cell? ⟨R, 2, none⟩ = some (.int .i64 s.now) := h.cell (by decide)
theorem KAt.cA {wg w : World} {R : Nat} {u : Value} {ss : List StepD} {s : CS} (h : KAt wg w R u ss s) {i : Nat} (hi : i < 24) : w.cell? ⟨R, 7 + i, none⟩ = some (.int .i64 (s.acts i)) := by
  rw [h.cell (by omega)]
  unfold kval
  rw [if_neg (by omega), if_neg (by omega), if_neg (by omega), if_neg (by omega), if_pos (by omega), Nat.add_sub_cancel_left]
theorem KAt.cD {wg w : World} {R : Nat} {u : Value} {ss : List StepD} {s : CS} (h : KAt wg w R u ss s) {i : Nat} (hi : i < 24) : w.cell? ⟨R, 31 + i, none⟩ = some (.int .i64 (s.dues i)) := by
  rw [h.cell (by omega)]
  unfold kval
  rw [if_neg (by omega), if_neg (by omega), if_neg (by omega), if_neg (by omega), if_neg (by omega), Nat.add_sub_cancel_left]
theorem KAt.cV {wg w : World} {R : Nat} {u : Value} {ss : List StepD} {s : CS} (h : KAt wg w R u ss s) {i : Nat} (hi : i < 4) : w.cell? ⟨R, 3 + i, none⟩ = some (.int .i64 (s.vars.getD i 0)) := by
  rw [h.cell (by omega)]
  unfold kval
  rw [if_neg (by omega), if_neg (by omega), if_neg (by omega), if_pos (by omega), Nat.add_sub_cancel_left]
theorem KAt.steps {wg w : World} {R : Nat} {u : Value} {ss : List StepD} {s : CS} (h : KAt wg w R u ss s) : PAt w ss u := h.st.below h.bel
set_option maxRecDepth 100000 in
set_option maxHeartbeats 1000000 in
theorem isOn (wg w : World) (R : Nat) (u : Value) (ss : List StepD) (s : CS) (k : Nat) (hk : k < 24) (h : KAt wg w R u ss s) :
    Calls Tryz.prog 165 #[.pointer (some ⟨R, 0, none⟩), .int .i64 (k : Int)] w fun e w' => e = .returned (.bool (s.acts k == 1)) ∧ w' = w := by
  have c := h.cA hk
  have q1 : (0 : Int) ≤ (k : Int) := by omega
  have q2 : (k : Int) < 24 := by omega
  clear h
  go_enter Tryz.func165, Tryz.ntmps165
  go_wp2
  go_ret
  exact ⟨rfl, rfl⟩
end Kc
end Go.Proofs.YtccklgopcjilcaaGreatDoor
/- A chart under way in the program's memory: what is written there. -/
namespace Go.Proofs.YtccklgopcjilcaaGreatDoor
open Go.RowKit Go.Deep
set_option linter.unusedVariables false
set_option linter.unusedSimpArgs false
namespace Kc
open Ex (inR evalCode evalVal vFault hid)
open St (StepD)
open Ch (RunD)
open Pf
def setL (cs : List Value) (o : Nat) : List Value → List Value
  | [] => cs
  | v :: r => setL (cs.set o v) (o + 1) r
theorem setL_len : ∀ (vs cs : List Value) (o : Nat), (setL cs o vs).length = cs.length
  | [], _, _ => rfl
  | v :: r, cs, o => by rw [setL, setL_len r]; simp
theorem setL_get : ∀ (vs cs : List Value) (o j : Nat), o + vs.length ≤ cs.length → (setL cs o vs)[j]? = if o ≤ j ∧ j < o + vs.length then vs[j - o]? else cs[j]?
  | [], cs, o, j, _ => by rw [setL, if_neg (by simp)]
  | v :: r, cs, o, j, h => by
    simp only [List.length_cons] at h
    rw [setL, setL_get r _ _ _ (by simp; omega), List.length_cons]
    by_cases h1 : j = o
    · subst h1
      rw [if_neg (by omega), if_pos (by omega), List.getElem?_set_self (by omega), Nat.sub_self]
      rfl
    · by_cases h2 : o + 1 ≤ j ∧ j < o + 1 + r.length
      · rw [if_pos h2, if_pos (by omega), show j - o = (j - (o + 1)) + 1 by omega]
        rfl
      · rw [if_neg h2, if_neg (by omega), List.getElem?_set_ne (by omega)]
theorem heap_setCells : ∀ (vs : List Value) (w : World) (b o : Nat) (cs : List Value) (t : TypeId), w.heap[b]? = some (.cells cs.toArray t) → (w.setCells b o vs).heap[b]? = some (.cells (setL cs o vs).toArray t)
  | [], w, b, o, cs, t, h => h
  | v :: r, w, b, o, cs, t, h => by
    rw [World.setCells, setL]
    refine heap_setCells r _ b (o + 1) (cs.set o v) t ?_
    have := Ch.blk_set (i := o) h v
    simpa only [List.setIfInBounds_toArray] using this
theorem heap_other : ∀ (vs : List Value) (w : World) (b o : Nat) {i : Nat}, i ≠ b → (w.setCells b o vs).heap[i]? = w.heap[i]?
  | [], w, b, o, i, _ => rfl
  | v :: r, w, b, o, i, h => by
    rw [World.setCells, heap_other r _ b (o + 1) h]
    exact Below.heap_setCell _ _ _ _ h
theorem size_setCells : ∀ (vs : List Value) (w : World) (b o : Nat), (w.setCells b o vs).heap.size = w.heap.size
  | [], w, b, o => rfl
  | v :: r, w, b, o => by rw [World.setCells, size_setCells r]; simp [World.setCell]
theorem below_setCells {B : Nat} {x : World} : ∀ (vs : List Value) (w : World) (b o : Nat), B ≤ b → Below B x w → Below B x (w.setCells b o vs)
  | [], w, b, o, _, h => h
  | v :: r, w, b, o, hb, h => by
    rw [World.setCells]
    exact below_setCells r _ b (o + 1) hb (h.setCell (p := ⟨b, o, none⟩) hb v)
/-- Only the chart's own block is written, and what is new. -/
structure Rides (R : Nat) (w w' : World) : Prop where
  os : w'.os = w.os
  tape : w'.tape = w.tape
  output : w'.output = w.output
  size : w.heap.size ≤ w'.heap.size
  block : ∀ b, b < w.heap.size → b ≠ R → w'.heap[b]? = w.heap[b]?
theorem Rides.of_below {R : Nat} {w w' : World} (h : Below w.heap.size w w') : Rides R w w' := ⟨h.os, h.tape, h.output, h.size, fun b hb _ => h.block b hb⟩
theorem Rides.trans {R : Nat} {a b c : World} (h : Rides R a b) (h' : Rides R b c) : Rides R a c :=
  ⟨h'.os.trans h.os, h'.tape.trans h.tape, h'.output.trans h.output, Nat.le_trans h.size h'.size, fun k hk hn => (h'.block k (Nat.lt_of_lt_of_le hk h.size) hn).trans (h.block k hk hn)⟩
theorem Rides.refl (R : Nat) (w : World) : Rides R w w := ⟨rfl, rfl, rfl, Nat.le_refl _, fun _ _ _ => rfl⟩
theorem Rides.set (R : Nat) (w : World) (o : Nat) (v : Value) : Rides R w (w.setCell ⟨R, o, none⟩ v) :=
  ⟨rfl, rfl, rfl, by simp [World.setCell], fun b hb hn => Below.heap_setCell _ _ _ _ hn⟩
theorem Rides.sets (R : Nat) : ∀ (vs : List Value) (w : World) (o : Nat), Rides R w (w.setCells R o vs)
  | [], w, o => Rides.refl R w
  | v :: r, w, o => (Rides.set R w o v).trans (Rides.sets R r _ (o + 1))
/-- From an old world on, where the block is newer, all is kept. -/
theorem Rides.below {R : Nat} {wg w w' : World} (h : Rides R w w') (hb : Below wg.heap.size wg w) (ho : wg.heap.size ≤ R) : Below wg.heap.size wg w' :=
  ⟨h.os.trans hb.os, h.tape.trans hb.tape, h.output.trans hb.output, Nat.le_trans hb.size h.size, fun b hb' => (h.block b (Nat.lt_of_lt_of_le hb' hb.size) (by omega)).trans (hb.block b hb')⟩
theorem kcs_setL {u : Value} {s s' : CS} {o : Nat} {vs : List Value} (h1 : o + vs.length ≤ 55) (h : ∀ j, j < 55 → some (kval u s' j) = if o ≤ j ∧ j < o + vs.length then vs[j - o]? else some (kval u s j)) : setL (kcs u s) o vs = kcs u s' := by
  refine List.ext_getElem? fun j => ?_
  rw [setL_get _ _ _ _ (by rw [kcs_len]; exact h1)]
  rcases Nat.lt_or_ge j 55 with hj | hj
  · rw [kcs_get hj, kcs_get hj, h j hj]
  · rw [if_neg (by omega), List.getElem?_eq_none (by rw [kcs_len]; exact hj), List.getElem?_eq_none (by rw [kcs_len]; exact hj)]
theorem KAt.puts {wg w : World} {R : Nat} {u : Value} {ss : List StepD} {s s' : CS} (h : KAt wg w R u ss s) {o : Nat} {vs : List Value} (h1 : o + vs.length ≤ 55) (hk : ∀ j, j < 55 → some (kval u s' j) = if o ≤ j ∧ j < o + vs.length then vs[j - o]? else some (kval u s j)) (hl : s'.vars.length = 4) (hpad : ∀ i, ss.length ≤ i → s'.acts i = 0 ∧ s'.dues i = 0) :
    KAt wg (w.setCells R o vs) R u ss s' :=
  ⟨h.st, h.cap, below_setCells _ _ _ _ h.old h.bel, h.old, by rw [heap_setCells _ _ _ _ _ _ h.blk, kcs_setL h1 hk], hl, hpad⟩
theorem KAt.put {wg w : World} {R : Nat} {u : Value} {ss : List StepD} {s s' : CS} (h : KAt wg w R u ss s) {o : Nat} {v : Value} (h1 : o < 55) (hk : ∀ j, j < 55 → kval u s' j = if o = j then v else kval u s j) (hl : s'.vars.length = 4) (hpad : ∀ i, ss.length ≤ i → s'.acts i = 0 ∧ s'.dues i = 0) :
    KAt wg (w.setCell ⟨R, o, none⟩ v) R u ss s' :=
  h.puts (o := o) (vs := [v]) (by simp; omega) (fun j hj => by
    rw [hk j hj]
    by_cases e : o = j
    · subst e; simp
    · rw [if_neg e, if_neg (by simp; omega)]) hl hpad
theorem kval_act {u : Value} {s : CS} {k : Nat} (hk : k < 24) (v : Int) {j : Nat} (hj : j < 55) : kval u (act s k v) j = if 7 + k = j then .int .i64 v else kval u s j := by
  unfold kval act upd
  by_cases e : 7 + k = j
  · subst e
    rw [if_pos rfl, if_neg (by omega), if_neg (by omega), if_neg (by omega), if_neg (by omega), if_pos (by omega)]
    simp
  · rw [if_neg e]
    by_cases h1 : j < 31
    · by_cases h2 : j < 7
      · simp [h2]
      · have : ¬ j - 7 = k := by omega
        simp [this]
    · simp [h1]
theorem kval_due {u : Value} {s : CS} {k : Nat} (hk : k < 24) (v : Int) {j : Nat} (hj : j < 55) : kval u (due s k v) j = if 31 + k = j then .int .i64 v else kval u s j := by
  unfold kval due upd
  by_cases e : 31 + k = j
  · subst e
    rw [if_pos rfl, if_neg (by omega), if_neg (by omega), if_neg (by omega), if_neg (by omega), if_neg (by omega)]
    simp
  · rw [if_neg e]
    by_cases h1 : j < 31
    · simp [h1]
    · have : ¬ j - 31 = k := by omega
      simp [this]
theorem KAt.act {wg w : World} {R : Nat} {u : Value} {ss : List StepD} {s : CS} (h : KAt wg w R u ss s) {k : Nat} (hk : k < ss.length) (hl : ss.length ≤ 24) (v : Int) : KAt wg (w.setCell ⟨R, 7 + k, none⟩ (.int .i64 v)) R u ss (act s k v) :=
  h.put (by omega) (fun j hj => kval_act (by omega) v hj) h.len (fun i hi => ⟨by show upd s.acts k v i = 0; unfold upd; rw [if_neg (by omega)]; exact (h.pad i hi).1, (h.pad i hi).2⟩)
theorem KAt.due {wg w : World} {R : Nat} {u : Value} {ss : List StepD} {s : CS} (h : KAt wg w R u ss s) {k : Nat} (hk : k < ss.length) (hl : ss.length ≤ 24) (v : Int) : KAt wg (w.setCell ⟨R, 31 + k, none⟩ (.int .i64 v)) R u ss (due s k v) :=
  h.put (by omega) (fun j hj => kval_due (by omega) v hj) h.len (fun i hi => ⟨(h.pad i hi).1, by show upd s.dues k v i = 0; unfold upd; rw [if_neg (by omega)]; exact (h.pad i hi).2⟩)
end Kc
end Go.Proofs.YtccklgopcjilcaaGreatDoor
