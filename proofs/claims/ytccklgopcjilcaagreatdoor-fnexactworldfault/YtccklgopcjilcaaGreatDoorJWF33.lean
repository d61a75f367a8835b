/- Laid together: KfM, EgM, DmM, DcX. -/
import Derived.Test.YtccklgopcjilcaaGreatDoorJWF32
import Derived.Test.YtccklgopcjilcaaGreatDoorJWF11
import Derived.Test.YtccklgopcjilcaaGreatDoorJWF16
import Derived.Test.YtccklgopcjilcaaGreatDoorJWF17
import Derived.DeepKeys3
import Derived.Maps.Range
import Derived.Below
/- The fault of a chart, told plainly. -/
namespace Go.Proofs.YtccklgopcjilcaaGreatDoor
set_option linter.unusedVariables false
namespace Kc
open Ex (inR evalCode evalVal vFault hid)
open St (StepD)
open Ch (RunD)
open Pf
def fA (r : RunD) : Nat → Int := fun i => r.marks.getD i 0
def fD (r : RunD) : Nat → Int := fun i => r.dues.getD i 0
theorem fA_eq {r : RunD} {i : Nat} (h : i < r.marks.length) : fA r i = r.marks[i] := by unfold fA; rw [List.getD_eq_getElem?_getD, List.getElem?_eq_getElem h]; rfl
theorem fD_eq {r : RunD} {i : Nat} (h : i < r.dues.length) : fD r i = r.dues[i] := by unfold fD; rw [List.getD_eq_getElem?_getD, List.getElem?_eq_getElem h]; rfl
def within (l : List Int) (m : Int) : Bool := l.all fun x => inR x 0 m
def stateC (st now : Int) (vars : List Int) : Int := if inR st 1 3 = false then 3 else if inR now 0 1000000 = false then 3 else vFault vars
def numC (n : Nat) (r : RunD) : Int :=
  if stateC r.status r.now r.vars ≠ 0 then stateC r.status r.now r.vars else if r.marks.length ≠ n then 2 else if r.dues.length ≠ n then 2 else if within r.marks 2 = false then 3 else if within r.dues (r.now + 99) = false then 3 else 0
def cntK (A : Nat → Int) (l : List Nat) (v : Int) : Nat := (l.filter fun j => A j == v).length
theorem cntK_nil (A : Nat → Int) (v : Int) : cntK A [] v = 0 := rfl
theorem cntK_snoc (A : Nat → Int) (l : List Nat) (j : Nat) (v : Int) : cntK A (l ++ [j]) v = cntK A l v + (if A j = v then 1 else 0) := by
  unfold cntK
  rw [List.filter_append, List.length_append]
  by_cases h : A j = v <;> simp [h]
theorem cntK_le (A : Nat → Int) (l : List Nat) (v : Int) : cntK A l v ≤ l.length := List.length_filter_le _ _
theorem cntK_two (A : Nat → Int) : ∀ (l : List Nat), cntK A l 1 + cntK A l 2 ≤ l.length
  | [] => Nat.le_refl _
  | a :: l => by
    have := cntK_two A l
    unfold cntK at this ⊢
    simp only [List.filter_cons, List.length_cons]
    by_cases h1 : A a = 1
    · simp [h1]; omega
    · by_cases h2 : A a = 2
      · simp [h2]; omega
      · simp [h1, h2]; omega
/-- Does what is on at a step not go with its kids, or with its due? (as the specification asks it) -/
def wrongP (ss : List StepD) (A D : Nat → Int) (k : Nat) : Bool :=
  if A k ≠ 1 then decide (0 < cntK A (kidsL ss k) 1 + cntK A (kidsL ss k) 2) || (D k != 0)
  else if (PJ ss k).kind = 1 ∨ (PJ ss k).kind = 3 then (cntK A (kidsL ss k) 1 != 1) || decide (0 < cntK A (kidsL ss k) 2) || (D k != 0)
  else if (PJ ss k).kind = 4 then decide (cntK A (kidsL ss k) 1 < 1) || (cntK A (kidsL ss k) 1 + cntK A (kidsL ss k) 2 != (kidsL ss k).length) || (D k != 0)
  else if (PJ ss k).kind = 8 then (cntK A (kidsL ss k) 1 != 1) || decide (0 < cntK A (kidsL ss k) 2) || ((D k != 0) != (A (kid ss k 0) == 1))
  else if (PJ ss k).kind = 6 then !(D k != 0)
  else if (PJ ss k).kind = 7 then true
  else (D k != 0)
def zeros (l : List Int) : Bool := l.all fun x => x == 0
def fitsP (ss : List StepD) (r : RunD) : Bool :=
  if r.status ≠ 1 then zeros r.marks && zeros r.dues else (fA r 0 == 1) && (List.range ss.length).all fun k => !wrongP ss (fA r) (fD r) k
def chartC (ss : List StepD) (r : RunD) : Int :=
  if pFault ss ≠ 0 then pFault ss else if numC ss.length r ≠ 0 then numC ss.length r else if fitsP ss r = true then 0 else 1
theorem c_proc {ss : List StepD} {r : RunD} (h : pFault ss ≠ 0) : chartC ss r = pFault ss := by unfold chartC; rw [if_pos h]
theorem c_num {ss : List StepD} {r : RunD} (h : pFault ss = 0) (h2 : numC ss.length r ≠ 0) : chartC ss r = numC ss.length r := by unfold chartC; rw [if_neg (by simp [h]), if_pos h2]
theorem c_form {ss : List StepD} {r : RunD} (h : pFault ss = 0) (h2 : numC ss.length r = 0) (h3 : fitsP ss r = false) : chartC ss r = 1 := by unfold chartC; rw [if_neg (by simp [h]), if_neg (by simp [h2]), if_neg (by simp [h3])]
theorem c_ok {ss : List StepD} {r : RunD} (h : pFault ss = 0) (h2 : numC ss.length r = 0) (h3 : fitsP ss r = true) : chartC ss r = 0 := by unfold chartC; rw [if_neg (by simp [h]), if_neg (by simp [h2]), if_pos h3]
theorem of_c {ss : List StepD} {r : RunD} (h : chartC ss r = 0) : pFault ss = 0 ∧ numC ss.length r = 0 ∧ fitsP ss r = true := by
  by_cases h1 : pFault ss = 0
  · by_cases h2 : numC ss.length r = 0
    · cases h3 : fitsP ss r
      · rw [c_form h1 h2 h3] at h; cases h
      · exact ⟨h1, h2, rfl⟩
    · rw [c_num h1 h2] at h; exact absurd h h2
  · rw [c_proc h1] at h; exact absurd h h1
theorem num_state {n : Nat} {r : RunD} (h : stateC r.status r.now r.vars ≠ 0) : numC n r = stateC r.status r.now r.vars := by unfold numC; rw [if_pos h]
theorem num_len {n : Nat} {r : RunD} (h : stateC r.status r.now r.vars = 0) (h2 : ¬ (r.marks.length = n ∧ r.dues.length = n)) : numC n r = 2 := by
  unfold numC
  rw [if_neg (by simp [h])]
  by_cases h3 : r.marks.length = n
  · rw [if_neg (by simp [h3]), if_pos (fun e => h2 ⟨h3, e⟩)]
  · rw [if_pos h3]
theorem num_range {n : Nat} {r : RunD} (h : stateC r.status r.now r.vars = 0) (h1 : r.marks.length = n) (h2 : r.dues.length = n) (h3 : (within r.marks 2 && within r.dues (r.now + 99)) = false) : numC n r = 3 := by
  unfold numC
  rw [if_neg (by simp [h]), if_neg (by simp [h1]), if_neg (by simp [h2])]
  cases h4 : within r.marks 2
  · rw [if_pos rfl]
  · rw [h4] at h3
    rw [if_neg (by simp), if_pos (by simpa using h3)]
theorem num_ok {n : Nat} {r : RunD} (h : stateC r.status r.now r.vars = 0) (h1 : r.marks.length = n) (h2 : r.dues.length = n) (h3 : within r.marks 2 = true) (h4 : within r.dues (r.now + 99) = true) : numC n r = 0 := by
  unfold numC
  rw [if_neg (by simp [h]), if_neg (by simp [h1]), if_neg (by simp [h2]), if_neg (by simp [h3]), if_neg (by simp [h4])]
theorem of_num {n : Nat} {r : RunD} (h : numC n r = 0) : stateC r.status r.now r.vars = 0 ∧ r.marks.length = n ∧ r.dues.length = n ∧ within r.marks 2 = true ∧ within r.dues (r.now + 99) = true := by
  by_cases h1 : stateC r.status r.now r.vars = 0
  · by_cases h2 : r.marks.length = n ∧ r.dues.length = n
    · cases h3 : (within r.marks 2 && within r.dues (r.now + 99))
      · rw [num_range h1 h2.1 h2.2 h3] at h; cases h
      · simp only [Bool.and_eq_true] at h3
        exact ⟨h1, h2.1, h2.2, h3.1, h3.2⟩
    · rw [num_len h1 h2] at h; cases h
  · rw [num_state h1] at h; exact absurd h h1
theorem st_status {st now : Int} {vars : List Int} (h : inR st 1 3 = false) : stateC st now vars = 3 := by unfold stateC; rw [if_pos h]
theorem st_now {st now : Int} {vars : List Int} (h : inR st 1 3 = true) (h2 : inR now 0 1000000 = false) : stateC st now vars = 3 := by unfold stateC; rw [if_neg (by simp [h]), if_pos h2]
theorem st_vars {st now : Int} {vars : List Int} (h : inR st 1 3 = true) (h2 : inR now 0 1000000 = true) : stateC st now vars = vFault vars := by unfold stateC; rw [if_neg (by simp [h]), if_neg (by simp [h2])]
theorem of_state {st now : Int} {vars : List Int} (h : stateC st now vars = 0) : inR st 1 3 = true ∧ inR now 0 1000000 = true ∧ vFault vars = 0 := by
  cases h1 : inR st 1 3
  · rw [st_status h1] at h; cases h
  · cases h2 : inR now 0 1000000
    · rw [st_now h1 h2] at h; cases h
    · exact ⟨rfl, rfl, (st_vars h1 h2) ▸ h⟩
theorem within_take {l : List Int} {m : Int} {i : Nat} (hi : i < l.length) : within (l.take (i + 1)) m = (within (l.take i) m && inR l[i] 0 m) := by
  unfold within
  rw [List.take_succ_eq_append_getElem hi, List.all_append]
  simp
theorem within_all {l : List Int} {m : Int} (h : within l m = true) {i : Nat} (hi : i < l.length) : 0 ≤ l[i] ∧ l[i] ≤ m := by
  unfold within at h
  rw [List.all_eq_true] at h
  exact Ex.inR_iff.1 (h _ (List.getElem_mem hi))
theorem within_bad {l : List Int} {m : Int} {i : Nat} (hi : i < l.length) (h : inR l[i] 0 m = false) : within l m = false := by
  unfold within
  rw [List.all_eq_false]
  exact ⟨_, List.getElem_mem hi, by simp [h]⟩
theorem zeros_take {l : List Int} {i : Nat} (hi : i < l.length) : zeros (l.take (i + 1)) = (zeros (l.take i) && (l[i] == 0)) := by
  unfold zeros
  rw [List.take_succ_eq_append_getElem hi, List.all_append]
  simp
theorem kids_none {ss : List StepD} {k : Nat} (hp : pFault ss = 0) (hk : k < ss.length) (h : (PJ ss k).kind = 2 ∨ (PJ ss k).kind = 5 ∨ (PJ ss k).kind = 6 ∨ (PJ ss k).kind = 7) : kidsL ss k = [] := by
  have := many hp hk
  rcases h with h | h | h | h <;> rw [h] at this <;> simpa [manyOk] using this
theorem kind_in {ss : List StepD} {k : Nat} (hp : pFault ss = 0) (hk : k < ss.length) : 1 ≤ (PJ ss k).kind ∧ (PJ ss k).kind ≤ 8 := by
  have h := (of_one (first_all (of_p hp).2.1 hk)).1
  unfold formOk at h
  simp only [Bool.and_eq_true] at h
  exact Ex.inR_iff.1 h.1
/-- The same, as the program asks it. -/
def rightKids (ss : List StepD) (A : Nat → Int) (k : Nat) : Bool :=
  if (kidsL ss k).length = 0 then true
  else if A k ≠ 1 then (cntK A (kidsL ss k) 1 == 0) && (cntK A (kidsL ss k) 2 == 0)
  else if (PJ ss k).kind = 4 then decide (0 < cntK A (kidsL ss k) 1) && (cntK A (kidsL ss k) 1 + cntK A (kidsL ss k) 2 == (kidsL ss k).length)
  else (cntK A (kidsL ss k) 1 == 1) && (cntK A (kidsL ss k) 2 == 0)
def rightDue (ss : List StepD) (A D : Nat → Int) (k : Nat) : Bool :=
  if (PJ ss k).kind = 6 then (D k != 0) == (A k == 1)
  else if (PJ ss k).kind = 8 then (D k != 0) == (A (kid ss k 0) == 1)
  else !(D k != 0)
def badP (ss : List StepD) (A D : Nat → Int) (k : Nat) : Bool := ((PJ ss k).kind == 7 && A k == 1) || !rightKids ss A k || !rightDue ss A D k
theorem cnt_pos {A : Nat → Int} {l : List Nat} {j : Nat} {v : Int} (hj : j ∈ l) (h : A j = v) : 0 < cntK A l v := by
  unfold cntK
  exact List.length_pos_of_mem (List.mem_filter.2 ⟨hj, by simp [h]⟩)
theorem bad_wrong' (kind ak a0 dk : Int) (on ov n : Nat) (h1 : 1 ≤ kind) (h8 : kind ≤ 8) (hn : kind = 1 ∨ kind = 3 ∨ kind = 4 ∨ kind = 8 → n ≠ 0) (hz : kind = 2 ∨ kind = 5 ∨ kind = 6 ∨ kind = 7 → n = 0 ∧ on = 0 ∧ ov = 0) (h0 : kind = 8 → a0 = 1 → 0 < on) :
    ((kind == 7 && ak == 1) || !(if n = 0 then true else if ak ≠ 1 then (on == 0) && (ov == 0) else if kind = 4 then decide (0 < on) && (on + ov == n) else (on == 1) && (ov == 0)) || !(if kind = 6 then (dk != 0) == (ak == 1) else if kind = 8 then (dk != 0) == (a0 == 1) else !(dk != 0))) =
    (if ak ≠ 1 then decide (0 < on + ov) || (dk != 0) else if kind = 1 ∨ kind = 3 then (on != 1) || decide (0 < ov) || (dk != 0) else if kind = 4 then decide (on < 1) || (on + ov != n) || (dk != 0) else if kind = 8 then (on != 1) || decide (0 < ov) || ((dk != 0) != (a0 == 1)) else if kind = 6 then !(dk != 0) else if kind = 7 then true else (dk != 0)) := by
  have c8 : kind = 1 ∨ kind = 3 ∨ kind = 4 ∨ kind = 8 ∨ kind = 2 ∨ kind = 5 ∨ kind = 6 ∨ kind = 7 := by omega
  rw [Bool.eq_iff_iff]
  obtain ⟨pa, ea⟩ : ∃ pa, pa = (ak == 1) := ⟨_, rfl⟩
  obtain ⟨pd, ed⟩ : ∃ pd, pd = (dk != 0) := ⟨_, rfl⟩
  obtain ⟨px, ex⟩ : ∃ px, px = (a0 == 1) := ⟨_, rfl⟩
  rw [← ea, ← ed, ← ex]
  have fa : ak = 1 ↔ pa = true := by rw [ea]; simp
  have fx : a0 = 1 ↔ px = true := by rw [ex]; simp
  rw [fx] at h0
  simp only [ne_eq, fa]
  clear ea ed ex fa fx
  cases pa <;> cases pd <;> cases px
  all_goals
    rcases c8 with rfl | rfl | rfl | rfl | rfl | rfl | rfl | rfl
  all_goals
    simp at hn hz h0 ⊢
  all_goals
    first | omega | (simp [hn]; done) | (simp [hn]; omega) | (simp [hz]; done) | (simp [hz]; omega) | skip
theorem bad_wrong {ss : List StepD} (A D : Nat → Int) {k : Nat} (hp : pFault ss = 0) (hk : k < ss.length) : badP ss A D k = wrongP ss A D k := by
  obtain ⟨h1, h8⟩ := kind_in hp hk
  unfold badP wrongP rightKids rightDue
  refine bad_wrong' _ _ _ _ _ _ _ h1 h8 (fun h => ?_) (fun h => ?_) (fun h ha => ?_)
  · rcases h with h | h | h | h
    · have := kids_seq hp hk h; omega
    · have := kids_two hp hk (.inl h); omega
    · have := kids_two hp hk (.inr h); omega
    · have := kids_guard hp hk h; omega
  · rw [kids_none hp hk h]
    exact ⟨rfl, rfl, rfl⟩
  · have := kids_guard hp hk h
    exact cnt_pos (kid_in (by omega)) ha
end Kc
end Go.Proofs.YtccklgopcjilcaaGreatDoor
/- The fault of an engine, plainly. -/
namespace Go.Proofs.YtccklgopcjilcaaGreatDoor
open Go.RowKit Go.Deep
set_option linter.unusedVariables false
namespace Eg
open St (StepD)
open Ei (InstD)
open En (EngD)
open Kc (chartC)
open Pf (pFault)
open Ex (inR)
def firstNZ {α : Type} (f : α → Int) : List α → Int
  | [] => 0
  | a :: l => if f a ≠ 0 then f a else firstNZ f l
theorem nz_step {α : Type} {f : α → Int} {l : List α} {k : Nat} (h : k < l.length) : firstNZ f (l.drop k) = if f l[k] ≠ 0 then f l[k] else firstNZ f (l.drop (k + 1)) := by
  rw [List.drop_eq_getElem_cons h]; rfl
theorem nz_bad {α : Type} {f : α → Int} {l : List α} {k : Nat} (h : k < l.length) (h1 : f l[k] ≠ 0) : firstNZ f (l.drop k) = f l[k] := by rw [nz_step h, if_pos h1]
theorem nz_next {α : Type} {f : α → Int} {l : List α} {k : Nat} (h : k < l.length) (h1 : f l[k] = 0) : firstNZ f (l.drop k) = firstNZ f (l.drop (k + 1)) := by rw [nz_step h, if_neg (by simp [h1])]
theorem nz_end {α : Type} {f : α → Int} {l : List α} {k : Nat} (h : l.length ≤ k) : firstNZ f (l.drop k) = 0 := by rw [List.drop_eq_nil_of_le h]; rfl
theorem nz_all {α : Type} {f : α → Int} : ∀ {l : List α}, firstNZ f l = 0 → ∀ a ∈ l, f a = 0
  | [], _, a, h => by cases h
  | b :: l, h, a, ha => by
    unfold firstNZ at h
    by_cases hb : f b = 0
    · rw [if_neg (by simp [hb])] at h
      rcases List.mem_cons.1 ha with rfl | h2
      · exact hb
      · exact nz_all h a h2
    · rw [if_pos hb] at h; exact absurd h hb
def procsC (ps : List (List StepD)) : Int := if ps.length < 1 ∨ 3 < ps.length then 2 else firstNZ pFault ps
def stepsD (e : EngD) (p : Int) : List StepD := e.procs[p.toNat]?.getD []
theorem stepsD_eq {e : EngD} {p : Int} (h : p.toNat < e.procs.length) : stepsD e p = e.procs[p.toNat] := by unfold stepsD; rw [List.getElem?_eq_getElem h, Option.getD_some]
def hasP (e : EngD) (p : Int) : Bool := inR p 0 ((e.procs.length : Int) - 1)
theorem hasP_in {e : EngD} {p : Int} (h : hasP e p = true) : 0 ≤ p ∧ p.toNat < e.procs.length ∧ p < (e.procs.length : Int) := by
  unfold hasP inR at h; simp at h; omega
def instC (e : EngD) (i : InstD) : Int :=
  if hasP e i.proc = true then (if chartC (stepsD e i.proc) i.chart ≠ 0 then chartC (stepsD e i.proc) i.chart else if i.chart.now = e.now then 0 else 9) else 3
theorem i_range {e : EngD} {i : InstD} (h : hasP e i.proc = false) : instC e i = 3 := by unfold instC; rw [if_neg (by simp [h])]
theorem i_chart {e : EngD} {i : InstD} (h : hasP e i.proc = true) (h2 : chartC (stepsD e i.proc) i.chart ≠ 0) : instC e i = chartC (stepsD e i.proc) i.chart := by unfold instC; rw [if_pos h, if_pos h2]
theorem i_state {e : EngD} {i : InstD} (h : hasP e i.proc = true) (h2 : chartC (stepsD e i.proc) i.chart = 0) (h3 : i.chart.now ≠ e.now) : instC e i = 9 := by unfold instC; rw [if_pos h, if_neg (by simp [h2]), if_neg h3]
theorem i_ok {e : EngD} {i : InstD} (h : hasP e i.proc = true) (h2 : chartC (stepsD e i.proc) i.chart = 0) (h3 : i.chart.now = e.now) : instC e i = 0 := by unfold instC; rw [if_pos h, if_neg (by simp [h2]), if_pos h3]
theorem of_i {e : EngD} {i : InstD} (h : instC e i = 0) : hasP e i.proc = true ∧ chartC (stepsD e i.proc) i.chart = 0 ∧ i.chart.now = e.now := by
  unfold instC at h
  by_cases h1 : hasP e i.proc = true
  · rw [if_pos h1] at h
    by_cases h2 : chartC (stepsD e i.proc) i.chart = 0
    · rw [if_neg (by simp [h2])] at h
      by_cases h3 : i.chart.now = e.now
      · exact ⟨h1, h2, h3⟩
      · rw [if_neg h3] at h; omega
    · rw [if_pos h2] at h; exact absurd h h2
  · rw [if_neg h1] at h; omega
def engC (e : EngD) : Int := if 6 < e.insts.length then 2 else if procsC e.procs ≠ 0 then procsC e.procs else if inR e.now 0 1000000 = true then firstNZ (instC e) e.insts else 3
theorem p_many {ps : List (List StepD)} (h : ps.length < 1 ∨ 3 < ps.length) : procsC ps = 2 := by unfold procsC; rw [if_pos h]
theorem p_few {ps : List (List StepD)} (h : ¬ (ps.length < 1 ∨ 3 < ps.length)) : procsC ps = firstNZ pFault ps := by unfold procsC; rw [if_neg h]
theorem e_many {e : EngD} (h : e.procs.length < 1 ∨ 3 < e.procs.length ∨ 6 < e.insts.length) : engC e = 2 := by
  unfold engC
  by_cases h1 : 6 < e.insts.length
  · rw [if_pos h1]
  · rw [if_neg h1, p_many (by omega), if_pos (by omega)]
theorem e_proc {e : EngD} (h : ¬ 6 < e.insts.length) (h2 : procsC e.procs ≠ 0) : engC e = procsC e.procs := by unfold engC; rw [if_neg h, if_pos h2]
theorem e_now {e : EngD} (h : ¬ 6 < e.insts.length) (h2 : procsC e.procs = 0) (h3 : inR e.now 0 1000000 = false) : engC e = 3 := by unfold engC; rw [if_neg h, if_neg (by simp [h2]), if_neg (by simp [h3])]
theorem e_inst {e : EngD} (h : ¬ 6 < e.insts.length) (h2 : procsC e.procs = 0) (h3 : inR e.now 0 1000000 = true) : engC e = firstNZ (instC e) e.insts := by unfold engC; rw [if_neg h, if_neg (by simp [h2]), if_pos h3]
theorem of_e {e : EngD} (h : engC e = 0) : e.insts.length ≤ 6 ∧ (1 ≤ e.procs.length ∧ e.procs.length ≤ 3) ∧ firstNZ pFault e.procs = 0 ∧ inR e.now 0 1000000 = true ∧ firstNZ (instC e) e.insts = 0 := by
  by_cases h1 : 6 < e.insts.length
  · rw [e_many (by omega)] at h; omega
  · by_cases h2 : procsC e.procs = 0
    · by_cases h4 : e.procs.length < 1 ∨ 3 < e.procs.length
      · rw [p_many h4] at h2; omega
      · cases h3 : inR e.now 0 1000000 with
        | false => rw [e_now h1 h2 h3] at h; omega
        | true => rw [e_inst h1 h2 h3] at h; rw [p_few h4] at h2; exact ⟨by omega, by omega, h2, rfl, h⟩
    · rw [e_proc h1 h2] at h; exact absurd h h2
end Eg
end Go.Proofs.YtccklgopcjilcaaGreatDoor
/- The claims of a desk, plainly: which task is open, who is ahead, the fault of a claim and of a desk. -/
namespace Go.Proofs.YtccklgopcjilcaaGreatDoor
open Go.RowKit Go.Deep
set_option linter.unusedVariables false
namespace Dk
open St (StepD)
open Ei (InstD)
open En (EngD)
open Cl (ClD)
open Eg (engC stepsD instC firstNZ nz_bad nz_next nz_end nz_all hasP of_e of_i hasP_in stepsD_eq)
open Kc (chartC fA fA_eq of_c of_num)
open Pf (PJ PJ_eq)
open Ex (inR)
def hasI (e : EngD) (i : Int) : Bool := inR i 0 ((e.insts.length : Int) - 1)
theorem hasI_in {e : EngD} {i : Int} (h : hasI e i = true) : 0 ≤ i ∧ i.toNat < e.insts.length ∧ i < (e.insts.length : Int) := by
  unfold hasI inR at h; simp at h; omega
def instD (e : EngD) (i : Nat) : InstD := e.insts[i]?.getD ⟨0, 0, 0, [], [], []⟩
theorem instD_eq {e : EngD} {i : Nat} (h : i < e.insts.length) : instD e i = e.insts[i] := by unfold instD; rw [List.getElem?_eq_getElem h, Option.getD_some]
def openP (ss : List StepD) (A : Nat → Int) (s : Int) : Bool := inR s 0 ((ss.length : Int) - 1) && ((PJ ss s.toNat).kind == 2 && A s.toNat == 1)
def openT (e : EngD) (i s : Int) : Bool := openP (stepsD e (instD e i.toNat).proc) (fA (instD e i.toNat).chart) s
theorem open_out {ss : List StepD} {A : Nat → Int} {s : Int} (h : inR s 0 ((ss.length : Int) - 1) = false) : openP ss A s = false := by unfold openP; rw [h, Bool.false_and]
theorem open_in {ss : List StepD} {A : Nat → Int} {s : Int} (h : inR s 0 ((ss.length : Int) - 1) = true) : openP ss A s = ((PJ ss s.toNat).kind == 2 && A s.toNat == 1) := by unfold openP; rw [h, Bool.true_and]
theorem open_lt {e : EngD} {i s : Int} (h : openT e i s = true) : 0 ≤ s ∧ s < ((stepsD e (instD e i.toNat).proc).length : Int) := by
  unfold openT openP inR at h; simp at h; omega
/-- What an engine without a fault has at an instance. -/
theorem inst_ok {e : EngD} (h : engC e = 0) {i : Nat} (hi : i < e.insts.length) : hasP e e.insts[i].proc = true ∧ (e.insts[i].chart.marks.length = (stepsD e e.insts[i].proc).length ∧ Pf.pFault (stepsD e e.insts[i].proc) = 0) := by
  obtain ⟨_, _, _, _, h1⟩ := of_e h
  obtain ⟨h2, h3, _⟩ := of_i (nz_all h1 _ (List.getElem_mem hi))
  obtain ⟨h4, h5, _⟩ := of_c h3
  exact ⟨h2, (of_num h5).2.1, h4⟩
def CJ (cs : List ClD) (k : Nat) : ClD := cs[k]?.getD ⟨0, 0, 0⟩
theorem CJ_eq {cs : List ClD} {k : Nat} (h : k < cs.length) : CJ cs k = cs[k] := by unfold CJ; rw [List.getElem?_eq_getElem h, Option.getD_some]
def aheadC (a b : ClD) : Bool := decide (a.inst < b.inst) || (decide (a.inst = b.inst) && decide (a.step < b.step))
def isU (u : Int) : Bool := inR u 1 9
def oneC (e : EngD) (c : ClD) : Int := if (hasI e c.inst && isU c.user) = true then (if openT e c.inst c.step = true then 0 else 4) else 3
def claimC (e : EngD) (cs : List ClD) (k : Nat) : Int := if oneC e (CJ cs k) ≠ 0 then oneC e (CJ cs k) else if 0 < k ∧ aheadC (CJ cs (k - 1)) (CJ cs k) = false then 1 else 0
def claimsC (e : EngD) (cs : List ClD) : Int := firstNZ (claimC e cs) (List.range cs.length)
def deskC (d : DeskD) : Int := if engC d.eng ≠ 0 then engC d.eng else if 60 < d.claims.length then 2 else claimsC d.eng d.claims
theorem one_range {e : EngD} {c : ClD} (h : (hasI e c.inst && isU c.user) = false) : oneC e c = 3 := by unfold oneC; rw [if_neg (by simp [h])]
theorem one_none {e : EngD} {c : ClD} (h : (hasI e c.inst && isU c.user) = true) (h2 : openT e c.inst c.step = false) : oneC e c = 4 := by unfold oneC; rw [if_pos h, if_neg (by simp [h2])]
theorem one_ok {e : EngD} {c : ClD} (h : (hasI e c.inst && isU c.user) = true) (h2 : openT e c.inst c.step = true) : oneC e c = 0 := by unfold oneC; rw [if_pos h, if_pos h2]
theorem of_one {e : EngD} {c : ClD} (h : oneC e c = 0) : hasI e c.inst = true ∧ isU c.user = true ∧ openT e c.inst c.step = true := by
  unfold oneC at h
  by_cases h1 : (hasI e c.inst && isU c.user) = true
  · rw [if_pos h1] at h
    rw [Bool.and_eq_true] at h1
    by_cases h2 : openT e c.inst c.step = true
    · exact ⟨h1.1, h1.2, h2⟩
    · rw [if_neg h2] at h; cases h
  · rw [if_neg h1] at h; cases h
theorem c_one {e : EngD} {cs : List ClD} {k : Nat} (h : oneC e (CJ cs k) ≠ 0) : claimC e cs k = oneC e (CJ cs k) := by unfold claimC; rw [if_pos h]
theorem c_form {e : EngD} {cs : List ClD} {k : Nat} (h : oneC e (CJ cs k) = 0) (h2 : 0 < k) (h3 : aheadC (CJ cs (k - 1)) (CJ cs k) = false) : claimC e cs k = 1 := by unfold claimC; rw [if_neg (by simp [h]), if_pos ⟨h2, h3⟩]
theorem c_first {e : EngD} {cs : List ClD} {k : Nat} (h : oneC e (CJ cs k) = 0) (h2 : ¬ 0 < k) : claimC e cs k = 0 := by unfold claimC; rw [if_neg (by simp [h]), if_neg (fun h => h2 h.1)]
theorem c_ok {e : EngD} {cs : List ClD} {k : Nat} (h : oneC e (CJ cs k) = 0) (h3 : aheadC (CJ cs (k - 1)) (CJ cs k) = true) : claimC e cs k = 0 := by unfold claimC; rw [if_neg (by simp [h]), if_neg (by simp [h3])]
theorem of_claim {e : EngD} {cs : List ClD} {k : Nat} (h : claimC e cs k = 0) : oneC e (CJ cs k) = 0 ∧ (0 < k → aheadC (CJ cs (k - 1)) (CJ cs k) = true) := by
  by_cases h1 : oneC e (CJ cs k) = 0
  · refine ⟨h1, fun h2 => ?_⟩
    cases h3 : aheadC (CJ cs (k - 1)) (CJ cs k)
    · rw [c_form h1 h2 h3] at h; cases h
    · rfl
  · rw [c_one h1] at h; exact absurd h h1
theorem rg_bad {f : Nat → Int} {n k : Nat} (h : k < n) (h1 : f k ≠ 0) : firstNZ f ((List.range n).drop k) = f k := by
  have := nz_bad (f := f) (l := List.range n) (k := k) (by simpa using h) (by simpa using h1)
  simpa using this
theorem rg_next {f : Nat → Int} {n k : Nat} (h : k < n) (h1 : f k = 0) : firstNZ f ((List.range n).drop k) = firstNZ f ((List.range n).drop (k + 1)) :=
  nz_next (f := f) (l := List.range n) (k := k) (by simpa using h) (by simpa using h1)
theorem rg_end {f : Nat → Int} {n k : Nat} (h : n ≤ k) : firstNZ f ((List.range n).drop k) = 0 := nz_end (by simpa using h)
theorem d_eng {d : DeskD} (h : engC d.eng ≠ 0) : deskC d = engC d.eng := by unfold deskC; rw [if_pos h]
theorem d_many {d : DeskD} (h : engC d.eng = 0) (h2 : 60 < d.claims.length) : deskC d = 2 := by unfold deskC; rw [if_neg (by simp [h]), if_pos h2]
theorem d_rest {d : DeskD} (h : engC d.eng = 0) (h2 : ¬ 60 < d.claims.length) : deskC d = claimsC d.eng d.claims := by unfold deskC; rw [if_neg (by simp [h]), if_neg h2]
theorem of_d {d : DeskD} (h : deskC d = 0) : engC d.eng = 0 ∧ d.claims.length ≤ 60 ∧ claimsC d.eng d.claims = 0 := by
  by_cases h1 : engC d.eng = 0
  · by_cases h2 : 60 < d.claims.length
    · rw [d_many h1 h2] at h; cases h
    · rw [d_rest h1 h2] at h; exact ⟨h1, by omega, h⟩
  · rw [d_eng h1] at h; exact absurd h h1
theorem of_claims {e : EngD} {cs : List ClD} (h : claimsC e cs = 0) {k : Nat} (hk : k < cs.length) : claimC e cs k = 0 := nz_all h k (List.mem_range.2 hk)
end Dk
end Go.Proofs.YtccklgopcjilcaaGreatDoor
/- Maps whose keys are pairs of numbers, by the list of their entries in the order in which they were laid. -/
namespace Go.Proofs.YtccklgopcjilcaaGreatDoor
open Go.RowKit
set_option linter.unusedVariables false
namespace Mp
open Go.ChangeMaps (setBlock heap_setBlock_same heap_setBlock_other)
open Go.MapKept (Stamped stamped_push)
def kv (p : Int × Int) : Value := .agg #[.int .i64 p.1, .int .i64 p.2]
theorem kv_inj {p q : Int × Int} (h : kv p = kv q) : p = q := by
  obtain ⟨a, b⟩ := p
  obtain ⟨c, d⟩ := q
  simp [kv] at h
  rw [h.1, h.2]
/-- Numbers that tasks may have. -/
def Rg (p : Int × Int) : Prop := (0 ≤ p.1 ∧ p.1 < 1000000000000000) ∧ 0 ≤ p.2 ∧ p.2 < 1000000000000000
abbrev Ent := (Int × Int) × Value
/-- A map at block b holds these entries. -/
def At (w : World) (b : Nat) (E : List Ent) : Prop := ∃ es clock, w.heap[b]? = some (.map es clock) ∧ Stamped es clock ∧ es.toList.map (fun x => (x.key, x.val)) = E.map (fun p => (kv p.1, p.2)) ∧ ∀ p ∈ E, Rg p.1
theorem At.keep {w w' : World} {b : Nat} {E : List Ent} (h : At w b E) (hb : w'.heap[b]? = w.heap[b]?) : At w' b E := by
  obtain ⟨es, clock, h1, h2⟩ := h
  exact ⟨es, clock, hb.trans h1, h2⟩
theorem At.lt {w : World} {b : Nat} {E : List Ent} (h : At w b E) : b < w.heap.size := by
  obtain ⟨es, clock, h1, _⟩ := h
  exact (Array.getElem?_eq_some_iff.1 h1).1
theorem At.nil {w : World} {b clock : Nat} (h : w.heap[b]? = some (.map #[] clock)) : At w b [] := ⟨#[], clock, h, ⟨fun x hx => by simp at hx, by simp, by simp⟩, rfl, fun p hp => by cases hp⟩
theorem At.keys {w : World} {b : Nat} {E : List Ent} (h : At w b E) : (E.map (·.1)).Nodup := by
  obtain ⟨es, clock, _, ⟨_, _, h3⟩, h4, _⟩ := h
  have e : (es.toList.map (fun x => (x.key, x.val))).map (·.1) = es.toList.map (·.key) := by simp [Function.comp_def]
  rw [h4, List.map_map] at e
  rw [← e] at h3
  have e2 : List.map ((fun x : Value × Value => x.1) ∘ fun p : Ent => (kv p.1, p.2)) E = (E.map (·.1)).map kv := by simp [Function.comp_def]
  rw [e2] at h3
  exact (List.pairwise_map.1 h3).imp (fun hne e => hne (by rw [e]))
/-- The key's type: a struct of two numbers. -/
theorem keyType : Tryz.prog.keyType 147 = true := by kernel_rfl
theorem cellsK : Tryz.prog.cellsOf 147 = 2 := by kernel_rfl
theorem uK : (match Tryz.prog.underlying 147 with | some (.array _ _) | some (.struct _) => true | _ => false) = true := by kernel_rfl
theorem law : Go.WideMaps.KeyLaw Tryz.prog 147 := deep_law (m := 2) (by omega) (by kernel_rfl) (by kernel_rfl) (by kernel_rfl)
theorem lits (a b : Int) (ha : (Lit.int .i64 a).wf = true) (hb : (Lit.int .i64 b).wf = true) (m : Nat) : ∃ l, Tryz.prog.keyLits (m + 1 + 1) 147 [.int .i64 a, .int .i64 b] = some l := by
  have hu : (Tryz.prog.underlying 147).map (fun d => match d with | .struct fs => fs.toList.map (fun f => (f.name, f.type, f.offset)) | _ => []) = some [("inst", 2, 0), ("step", 2, 1)] := by kernel_rfl
  have hi : Tryz.prog.underlying 2 = some (.int .i64) := by kernel_rfl
  have hci : Tryz.prog.cellsOf 2 = 1 := by kernel_rfl
  cases hd : Tryz.prog.underlying 147 with
  | none => rw [hd] at hu; simp at hu
  | some d =>
    rw [hd] at hu
    simp only [Option.map_some, Option.some.injEq] at hu
    cases d <;> try (cases hu; done)
    rename_i fs
    obtain ⟨fs⟩ := fs
    obtain ⟨f0, r0, e0, h0, hu⟩ := List.map_eq_cons_iff.1 hu
    obtain ⟨f1, r1, e1, h1, hu⟩ := List.map_eq_cons_iff.1 hu
    obtain rfl := List.map_eq_nil_iff.1 hu
    subst e1
    have e0' : fs = [f0, f1] := e0
    subst e0'
    simp only [Prod.mk.injEq] at h0 h1
    obtain ⟨n0, t0, o0⟩ := h0
    obtain ⟨n1, t1, o1⟩ := h1
    unfold Program.keyLits
    simp only [hd]
    rw [if_pos ⟨by rw [cellsK]; rfl, by simp [n0, n1]⟩]
    simp [t0, t1, o0, o1, hci, Program.keyLits, hi, ha, hb]
theorem wf {x : Int} (h : 0 ≤ x ∧ x < 1000000000000000) : (Lit.int .i64 x).wf = true := by
  simp [Lit.wf, IntKind.min, IntKind.max, IntKind.bits, IntKind.signed]
  omega
theorem key {p : Int × Int} (h : Rg p) : ∃ l, keyOf Tryz.prog 147 (kv p) = some l := by
  have hts : Tryz.prog.types.size = 363 := by kernel_rfl
  obtain ⟨ls, hl⟩ := lits p.1 p.2 (wf h.1) (wf h.2) (363 - 1)
  obtain ⟨q, hq⟩ : ∃ q, (363 - 1 + 1 + 1 : Nat) = q := ⟨_, rfl⟩
  rw [hq] at hl
  have hk := keyType
  have hc := cellsK
  have hu := uK
  cases hd : Tryz.prog.underlying 147 with
  | none => rw [hd] at hu; cases hu
  | some d =>
    rw [hd] at hu
    refine ⟨.string (keyBytes ls), ?_⟩
    unfold keyOf
    rw [hd, hts, show (363 + 1 : Nat) = q from hq]
    clear hq
    cases d <;> simp at hu <;> simp [hk, Value.formed, hd, hc, kv, Value.cells, hl]
theorem At.find {w : World} {b : Nat} {E : List Ent} {es : Array MapEntry} (he : es.toList.map (fun x => (x.key, x.val)) = E.map (fun p => (kv p.1, p.2))) (hr : ∀ p ∈ E, Rg p.1) : ∀ e ∈ es.toList, ∃ l, keyOf Tryz.prog 147 e.key = some l := fun e hm => by
  have : (e.key, e.val) ∈ E.map (fun p => (kv p.1, p.2)) := by rw [← he]; exact List.mem_map.2 ⟨e, hm, rfl⟩
  obtain ⟨p, hp, e2⟩ := List.mem_map.1 this
  simp at e2
  rw [← e2.1]
  exact key (hr p hp)
/-- One entry more, at a key that is not there. -/
theorem At.put {w : World} {b : Nat} {E : List Ent} {p : Int × Int} (h : At w b E) (hp : Rg p) (hn : p ∉ E.map (·.1)) (v : Value) :
    ∃ o, (Instr.mapUpdate 149 (.map (some b)) (kv p) v).run Tryz.prog w = .ok () (setBlock w b o) ∧ At (setBlock w b o) b (E ++ [(p, v)]) ∧ (∀ i, i ≠ b → (setBlock w b o).heap[i]? = w.heap[i]?) ∧ (setBlock w b o).heap.size = w.heap.size := by
  have ht : Tryz.prog.underlying 149 = some (.map 147 2) := by kernel_rfl
  obtain ⟨es, clock, hb, hs, he, hr⟩ := h
  obtain ⟨l, hl⟩ := key hp
  have hne : ∀ e ∈ es.toList, e.key ≠ kv p := fun e hm e2 => by
    have : (e.key, e.val) ∈ E.map (fun p => (kv p.1, p.2)) := by rw [← he]; exact List.mem_map.2 ⟨e, hm, rfl⟩
    obtain ⟨q, hq, e3⟩ := List.mem_map.1 this
    simp at e3
    rw [← e3.1] at e2
    exact hn (List.mem_map.2 ⟨q, hq, kv_inj e2⟩)
  rcases law.find w hl es.toList (At.find (w := w) (b := b) he hr) with ⟨h1, _⟩ | ⟨j, e, h1, h2, h3⟩
  · refine ⟨.map (es.push ⟨kv p, v, clock⟩) (clock + 1), ?_, ⟨_, _, heap_setBlock_same hb _, stamped_push hs hne, ?_, ?_⟩, fun i hi => heap_setBlock_other hb _ hi, by simp [setBlock]⟩
    · simp [Instr.mapUpdate, run_underlying ht, MapKept.run_getObj_map hb, law.check w false hl, h1, MapKept.run_setObj_map _ hb, Result.andThen, setBlock]
    · simp [he]
    · intro q hq
      rcases List.mem_append.1 hq with hq | hq
      · exact hr q hq
      · simp at hq
        rw [hq]
        exact hp
  · exact absurd h3 (hne e (List.mem_of_getElem? h2))
/-- What lies at a key. -/
theorem At.get {w : World} {b : Nat} {E : List Ent} {p : Int × Int} {v : Value} (h : At w b E) (hm : (p, v) ∈ E) :
    (Instr.lookup 149 (.map (some b)) (kv p) false).run Tryz.prog w = .ok v w := by
  have ht : Tryz.prog.underlying 149 = some (.map 147 2) := by kernel_rfl
  have hk := h.keys
  obtain ⟨es, clock, hb, hs, he, hr⟩ := h
  obtain ⟨l, hl⟩ := key (hr _ hm)
  have hin : (kv p, v) ∈ es.toList.map (fun x => (x.key, x.val)) := by rw [he]; exact List.mem_map.2 ⟨(p, v), hm, rfl⟩
  obtain ⟨e0, hm0, e1⟩ := List.mem_map.1 hin
  simp at e1
  rcases law.find w hl es.toList (At.find (w := w) (b := b) he hr) with ⟨_, h2⟩ | ⟨j, e, h1, h2, h3⟩
  · exact absurd e1.1 (h2 e0 hm0)
  · have hme := List.mem_of_getElem? h2
    have : e = e0 := entry_eq_of_key (((MapKept.stamped_iff es clock).1 hs).2.2) hme hm0 (h3.trans e1.1.symm)
    simp [Instr.lookup, run_underlying ht, MapKept.run_getObj_map hb, law.check w _ hl, h1, Result.andThen, this, e1.2]
/-- Nothing lies at a key that is not there. -/
theorem At.getno {w : World} {b : Nat} {E : List Ent} {p : Int × Int} (h : At w b E) (hp : Rg p) (hn : p ∉ E.map (·.1)) :
    (Instr.lookup 149 (.map (some b)) (kv p) false).run Tryz.prog w = .ok (.int .i64 0) w := by
  have ht : Tryz.prog.underlying 149 = some (.map 147 2) := by kernel_rfl
  obtain ⟨es, clock, hb, hs, he, hr⟩ := h
  obtain ⟨l, hl⟩ := key hp
  have hne : ∀ e ∈ es.toList, e.key ≠ kv p := fun e hm e2 => by
    have : (e.key, e.val) ∈ E.map (fun p => (kv p.1, p.2)) := by rw [← he]; exact List.mem_map.2 ⟨e, hm, rfl⟩
    obtain ⟨q, hq, e3⟩ := List.mem_map.1 this
    simp at e3
    rw [← e3.1] at e2
    exact hn (List.mem_map.2 ⟨q, hq, kv_inj e2⟩)
  rcases law.find w hl es.toList (At.find (w := w) (b := b) he hr) with ⟨h1, _⟩ | ⟨j, e, h1, h2, h3⟩
  · simp [Instr.lookup, run_underlying ht, MapKept.run_getObj_map hb, law.check w _ hl, h1, Result.andThen]
  · exact absurd h3 (hne e (List.mem_of_getElem? h2))
end Mp
end Go.Proofs.YtccklgopcjilcaaGreatDoor
