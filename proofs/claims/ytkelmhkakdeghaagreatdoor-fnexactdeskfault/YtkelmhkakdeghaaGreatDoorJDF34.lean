/- Laid together: KcM, KfM. -/
import Derived.Test.YtkelmhkakdeghaaGreatDoorJDF32
import Derived.Test.YtkelmhkakdeghaaGreatDoorJDF33
import Derived.Test.YtkelmhkakdeghaaGreatDoorJDF8
import Derived.Test.YtkelmhkakdeghaaGreatDoorJDF14
/- The chart, told plainly: what comes of it where a step is entered, and where one is over. -/
namespace Go.Proofs.YtkelmhkakdeghaaGreatDoor
set_option linter.unusedVariables false
namespace Kc
open Ex (inR evalCode evalVal vFault)
open St (StepD)
open Pf
open Pl (deepG)
/-- A chart under way. -/
structure CS where
  status : Int
  now : Int
  vars : List Int
  acts : Nat → Int
  dues : Nat → Int
def upd (f : Nat → Int) (i : Nat) (v : Int) : Nat → Int := fun j => if j = i then v else f j
def zer (f : Nat → Int) (i e : Nat) : Nat → Int := fun j => if i ≤ j ∧ j < e then 0 else f j
def endOf (ss : List StepD) (k : Nat) : Nat := k + (underN ss k).length
def stopped (s : CS) (st : Int) : CS := ⟨st, s.now, s.vars, fun _ => 0, fun _ => 0⟩
def act (s : CS) (k : Nat) (v : Int) : CS := { s with acts := upd s.acts k v }
def due (s : CS) (k : Nat) (v : Int) : CS := { s with dues := upd s.dues k v }
def setV (s : CS) (k : Nat) (v : Int) : CS := { s with vars := s.vars.set k v }
def idle (ss : List StepD) (s : CS) (k : Nat) : CS := { s with acts := zer s.acts k (endOf ss k), dues := zer s.dues k (endOf ss k) }
def pick (ss : List StepD) (vars : List Int) : List Nat → Option Nat
  | [] => none
  | k :: ks => if (PJ ss k).cond.length = 0 then some k else if evalCode (PJ ss k).cond vars ≠ 0 then none else if evalVal (PJ ss k).cond vars = 1 then some k else pick ss vars ks
/-- The one behind k. -/
def aft : List Nat → Nat → Option Nat
  | a :: b :: r, k => if a = k then some b else aft (b :: r) k
  | _, _ => none
def allOver (s : CS) (ks : List Nat) : Bool := ks.all fun k => s.acts k == 2
def kid (ss : List StepD) (k i : Nat) : Nat := (kidsL ss k).getD i 0
/-- What entering a step asks for beside that it is on. -/
def beginG (E O : Nat → CS → CS) (ss : List StepD) (k : Nat) (s : CS) : CS :=
  if (PJ ss k).kind = 1 then E (kid ss k 0) s
  else if (PJ ss k).kind = 3 then (match pick ss s.vars (kidsL ss k) with | some j => E j s | none => stopped s 3)
  else if (PJ ss k).kind = 4 then (kidsL ss k).foldl (fun s j => E j s) s
  else if (PJ ss k).kind = 6 then due s k (s.now + (PJ ss k).arg)
  else if (PJ ss k).kind = 7 then (if evalCode (PJ ss k).expr s.vars = 0 then O k (setV s (PJ ss k).arg.toNat (evalVal (PJ ss k).expr s.vars)) else stopped s 3)
  else if (PJ ss k).kind = 8 then E (kid ss k 0) (due s k (s.now + (PJ ss k).arg))
  else s
/-- What the step above does. -/
def behindG (E O : Nat → CS → CS) (ss : List StepD) (k : Nat) (s : CS) : CS :=
  if (PJ ss k).parent < 0 then stopped s 2
  else if (PJ ss (PJ ss k).parent.toNat).kind = 4 then (if allOver (act s k 2) (kidsL ss (PJ ss k).parent.toNat) = true then O (PJ ss k).parent.toNat (act s k 2) else act s k 2)
  else if (PJ ss (PJ ss k).parent.toNat).kind = 1 then (match aft (kidsL ss (PJ ss k).parent.toNat) k with | some j => E j s | none => O (PJ ss k).parent.toNat s)
  else O (PJ ss k).parent.toNat s
/-- A step entered (false), or over (true). -/
def go (ss : List StepD) : Nat → Bool → Nat → CS → CS
  | 0, _, _, s => s
  | f + 1, false, k, s => if s.status = 1 then beginG (go ss f false) (go ss f true) ss k (act s k 1) else s
  | f + 1, true, k, s => behindG (go ss f false) (go ss f true) ss k (idle ss s k)
theorem go_enter (ss : List StepD) (f k : Nat) (s : CS) : go ss (f + 1) false k s = if s.status = 1 then beginG (go ss f false) (go ss f true) ss k (act s k 1) else s := rfl
theorem go_over (ss : List StepD) (f k : Nat) (s : CS) : go ss (f + 1) true k s = behindG (go ss f false) (go ss f true) ss k (idle ss s k) := rfl
/-! ### places -/
theorem kid_mem {ss : List StepD} {k j : Nat} : j ∈ kidsL ss k ↔ j < ss.length ∧ (PJ ss j).parent = (k : Int) := by
  unfold kidsL kidsN
  rw [List.mem_filter, List.mem_range, beq_iff_eq]
theorem kid_lt {ss : List StepD} {k j : Nat} (hp : pFault ss = 0) (h : j ∈ kidsL ss k) : k < j ∧ j < ss.length := by
  obtain ⟨h1, h2⟩ := kid_mem.1 h
  have := par_lt (first_all (of_p hp).2.1 h1)
  exact ⟨by omega, h1⟩
theorem kids_sorted (ss : List StepD) (k : Nat) : (kidsL ss k).Pairwise (· < ·) := by
  unfold kidsL kidsN
  exact List.Pairwise.filter _ List.pairwise_lt_range
theorem uFrom_end {ss : List StepD} {k : Nat} : ∀ (n i : Nat), i + n = ss.length → k < i → (∀ j, k < j → j < i → deepG ss k < deepG ss j) → Pl.End ss k (i + (uFrom ss k i).length)
  | 0, i, h, hk, hd => by rw [u_end (by omega)]; exact ⟨by simp; omega, by simp; omega, fun j h1 h2 => hd j h1 (by simpa using h2), .inl (by simp; omega)⟩
  | n + 1, i, h, hk, hd => by
    by_cases h1 : dOf ss k < dOf ss i
    · rw [u_step (by omega) h1, List.length_cons]
      have := uFrom_end (ss := ss) (k := k) n (i + 1) (by omega) (by omega) (fun j h2 h3 => by
        by_cases e : j = i
        · rw [e]; exact h1
        · exact hd j h2 (by omega))
      rw [show i + ((uFrom ss k (i + 1)).length + 1) = i + 1 + (uFrom ss k (i + 1)).length by omega]
      exact this
    · rw [u_stop (by omega) h1]
      exact ⟨by simp; omega, by simp; omega, fun j h2 h3 => hd j h2 (by simpa using h3), .inr (by have h4 : deepG ss i ≤ deepG ss k := Nat.not_lt.1 h1; simpa using h4)⟩
theorem end_of {ss : List StepD} {k : Nat} (hk : k < ss.length) : Pl.End ss k (endOf ss k) := by
  have := uFrom_end (ss := ss) (k := k) (ss.length - (k + 1)) (k + 1) (by omega) (by omega) (fun j h1 h2 => by omega)
  unfold endOf underN
  rw [List.length_cons, show k + ((uFrom ss k (k + 1)).length + 1) = k + 1 + (uFrom ss k (k + 1)).length by omega]
  exact this
theorem end_up {ss : List StepD} {k p : Nat} (hp : pFault ss = 0) (h : k ∈ kidsL ss p) : endOf ss k ≤ endOf ss p := by
  obtain ⟨h1, h2⟩ := kid_lt hp h
  have e1 := end_of h2
  have e2 := end_of (ss := ss) (k := p) (by omega)
  have hd := Pl.kid_deep hp (by omega) h
  have hb := Pl.kid_between hp (by omega) h2 (kid_mem.1 h).2
  have hgt : k < endOf ss p := by
    rcases Nat.lt_or_ge k (endOf ss p) with h3 | h3
    · exact h3
    · rcases e2.stop with h4 | h4
      · omega
      · have := hb (endOf ss p) e2.lt h3
        omega
  rcases Nat.lt_or_ge (endOf ss p) (endOf ss k) with h3 | h3
  · have h5 := e1.deep _ hgt h3
    rcases e2.stop with h4 | h4
    · have := e1.le; omega
    · omega
  · exact h3
theorem end_next {ss : List StepD} {k j p : Nat} (hp : pFault ss = 0) (h : k ∈ kidsL ss p) (h2 : j ∈ kidsL ss p) (h3 : k < j) : endOf ss k ≤ j := by
  have a1 := kid_lt hp h
  have d1 := Pl.kid_deep hp (by omega) h
  have d2 := Pl.kid_deep hp (by omega) h2
  rcases Nat.lt_or_ge j (endOf ss k) with h4 | h4
  · have := (end_of a1.2).deep j h3 h4
    omega
  · exact h4
theorem aft_mem : ∀ {l : List Nat} {k j : Nat}, l.Pairwise (· < ·) → aft l k = some j → k ∈ l ∧ j ∈ l ∧ k < j
  | [], k, j, _, h => by simp [aft] at h
  | [a], k, j, _, h => by simp [aft] at h
  | a :: b :: r, k, j, hp, h => by
    rw [aft] at h
    by_cases e : a = k
    · rw [if_pos e] at h
      cases h
      exact ⟨by simp [e], by simp, e ▸ (List.pairwise_cons.1 hp).1 _ (by simp)⟩
    · rw [if_neg e] at h
      obtain ⟨h1, h2, h3⟩ := aft_mem (List.pairwise_cons.1 hp).2 h
      exact ⟨List.mem_cons_of_mem _ h1, List.mem_cons_of_mem _ h2, h3⟩
/-! ### how far it is still -/
def mE (ss : List StepD) (k : Nat) : Nat := 10 * (ss.length - k)
def mO (ss : List StepD) (k : Nat) : Nat := 10 * (ss.length - endOf ss k) + deepG ss k
theorem deep_pos (ss : List StepD) (k : Nat) : 1 ≤ deepG ss k := by unfold deepG; rw [path]; simp
theorem m_kid {ss : List StepD} {k j : Nat} (hp : pFault ss = 0) (h : j ∈ kidsL ss k) : mE ss j < mE ss k := by
  have := kid_lt hp h
  unfold mE
  omega
theorem m_over {ss : List StepD} {k : Nat} (hp : pFault ss = 0) (hk : k < ss.length) : mO ss k < mE ss k := by
  have := Pl.deep_le hp hk
  have h1 := (end_of hk).lt
  have h2 := (end_of hk).le
  unfold mO mE
  omega
theorem m_next {ss : List StepD} {k j p : Nat} (hp : pFault ss = 0) (h : aft (kidsL ss p) k = some j) : mE ss j < mO ss k := by
  obtain ⟨h1, h2, h3⟩ := aft_mem (kids_sorted ss p) h
  have := end_next hp h1 h2 h3
  have := deep_pos ss k
  unfold mE mO
  omega
theorem m_up {ss : List StepD} {k p : Nat} (hp : pFault ss = 0) (h : k ∈ kidsL ss p) : mO ss p < mO ss k := by
  have h1 := end_up hp h
  have h2 := kid_lt hp h
  have h3 := Pl.kid_deep hp (by omega) h
  unfold mO
  omega
theorem up_mem {ss : List StepD} {k : Nat} (hk : k < ss.length) (h : ¬ (PJ ss k).parent < 0) : k ∈ kidsL ss (PJ ss k).parent.toNat := kid_mem.2 ⟨hk, by omega⟩
theorem kid_in {ss : List StepD} {k i : Nat} (h : i < (kidsL ss k).length) : kid ss k i ∈ kidsL ss k := by
  unfold kid
  rw [List.getD_eq_getElem?_getD, List.getElem?_eq_getElem h]
  exact List.getElem_mem h
theorem pick_mem {ss : List StepD} {vars : List Int} : ∀ {l : List Nat} {j : Nat}, pick ss vars l = some j → j ∈ l
  | [], j, h => by simp [pick] at h
  | a :: r, j, h => by
    rw [pick] at h
    by_cases h1 : (PJ ss a).cond.length = 0
    · rw [if_pos h1] at h; cases h; simp
    · rw [if_neg h1] at h
      by_cases h2 : evalCode (PJ ss a).cond vars ≠ 0
      · rw [if_pos h2] at h; cases h
      · rw [if_neg h2] at h
        by_cases h3 : evalVal (PJ ss a).cond vars = 1
        · rw [if_pos h3] at h; cases h; simp
        · rw [if_neg h3] at h
          exact List.mem_cons_of_mem _ (pick_mem h)
/-! ### kinds and kids -/
theorem many {ss : List StepD} {k : Nat} (hp : pFault ss = 0) (hk : k < ss.length) : manyOk (PJ ss k).kind (kidsL ss k).length = true := by
  have h := first_all (of_p hp).2.2.1 hk
  cases hx : manyOk (PJ ss k).kind (kidsL ss k).length
  · rw [link_many hx] at h; cases h
  · rfl
theorem kids_seq {ss : List StepD} {k : Nat} (hp : pFault ss = 0) (hk : k < ss.length) (h : (PJ ss k).kind = 1) : 1 ≤ (kidsL ss k).length := by
  have := many hp hk
  rw [h] at this
  simpa [manyOk] using this
theorem kids_two {ss : List StepD} {k : Nat} (hp : pFault ss = 0) (hk : k < ss.length) (h : (PJ ss k).kind = 3 ∨ (PJ ss k).kind = 4) : 2 ≤ (kidsL ss k).length := by
  have := many hp hk
  rcases h with h | h <;> rw [h] at this <;> simpa [manyOk] using this
theorem kids_guard {ss : List StepD} {k : Nat} (hp : pFault ss = 0) (hk : k < ss.length) (h : (PJ ss k).kind = 8) : (kidsL ss k).length = 2 := by
  have := many hp hk
  rw [h] at this
  simpa [manyOk] using this
/-! ### what stays -/
structure Ok (s : CS) : Prop where
  vars : vFault s.vars = 0
  lo : 0 ≤ s.now
  hi : s.now ≤ 1000000
theorem Ok.stopped {s : CS} (h : Ok s) (st : Int) : Ok (stopped s st) := ⟨h.vars, h.lo, h.hi⟩
theorem Ok.act {s : CS} (h : Ok s) (k : Nat) (v : Int) : Ok (act s k v) := ⟨h.vars, h.lo, h.hi⟩
theorem Ok.due {s : CS} (h : Ok s) (k : Nat) (v : Int) : Ok (due s k v) := ⟨h.vars, h.lo, h.hi⟩
theorem Ok.idle {ss : List StepD} {s : CS} (h : Ok s) (k : Nat) : Ok (idle ss s k) := ⟨h.vars, h.lo, h.hi⟩
theorem eval_in {e : List Nd.NodeD} {vars : List Int} (h : evalCode e vars = 0) : -1000000 ≤ evalVal e vars ∧ evalVal e vars ≤ 1000000 := by
  by_cases ht : Ex.typeCode e = 0
  · by_cases hv : vFault vars = 0
    · cases ho : Ex.evOk e vars
      · rw [(Ex.ev_bad ht hv ho).1] at h; cases h
      · rw [(Ex.ev_ok ht hv ho).2]
        obtain ⟨h0, h16, hok⟩ := Ex.of_e (Ex.of_type ht)
        refine Ex.getD_in (Ex.evs_in hok hv (Nat.le_refl _) (fun j hj => ?_)) (by rw [Ex.evs_len]; omega)
        cases hb : Ex.evBad e vars j
        · rfl
        · rw [Ex.evOk_bad hj hb] at ho; cases ho
    · rw [(Ex.ev_vars ht hv).1] at h; exact absurd h hv
  · rw [(Ex.ev_type ht).1] at h; exact absurd h ht
theorem Ok.setV {s : CS} (h : Ok s) (k : Nat) {v : Int} (hv : -1000000 ≤ v ∧ v ≤ 1000000) : Ok (setV s k v) := by
  refine ⟨?_, h.lo, h.hi⟩
  obtain ⟨h4, hr⟩ := Ex.of_v h.vars
  refine Ex.v_ok (by simp [Kc.setV, h4]) (fun i hi => ?_)
  have hi2 : i < s.vars.length := by simpa [Kc.setV] using hi
  have e : (Kc.setV s k v).vars[i] = if k = i then v else s.vars[i] := List.getElem_set _
  rw [e]
  split
  · exact Ex.inR_iff.2 hv
  · exact hr i hi2
theorem fold_ok {E : Nat → CS → CS} (hE : ∀ j s, Ok s → Ok (E j s)) : ∀ (l : List Nat) (s : CS), Ok s → Ok (l.foldl (fun s j => E j s) s)
  | [], s, h => h
  | a :: r, s, h => fold_ok hE r (E a s) (hE a s h)
theorem begin_ok {E O : Nat → CS → CS} {ss : List StepD} (hE : ∀ j s, Ok s → Ok (E j s)) (hO : ∀ j s, Ok s → Ok (O j s)) (k : Nat) (s : CS) (h : Ok s) : Ok (beginG E O ss k s) := by
  unfold beginG
  split
  · exact hE _ _ h
  · split
    · split
      · exact hE _ _ h
      · exact h.stopped _
    · split
      · exact fold_ok hE _ _ h
      · split
        · exact h.due _ _
        · split
          · split
            · next hc => exact hO _ _ (h.setV _ (eval_in hc))
            · exact h.stopped _
          · split
            · exact hE _ _ (h.due _ _)
            · exact h
theorem behind_ok {E O : Nat → CS → CS} {ss : List StepD} (hE : ∀ j s, Ok s → Ok (E j s)) (hO : ∀ j s, Ok s → Ok (O j s)) (k : Nat) (s : CS) (h : Ok s) : Ok (behindG E O ss k s) := by
  unfold behindG
  split
  · exact h.stopped _
  · split
    · split
      · exact hO _ _ (h.act _ _)
      · exact h.act _ _
    · split
      · split
        · exact hE _ _ h
        · exact hO _ _ h
      · exact hO _ _ h
theorem go_ok (ss : List StepD) : ∀ (f : Nat) (b : Bool) (k : Nat) (s : CS), Ok s → Ok (go ss f b k s)
  | 0, _, _, s, h => h
  | f + 1, false, k, s, h => by
    rw [go_enter]
    split
    · exact begin_ok (fun j s hs => go_ok ss f false j s hs) (fun j s hs => go_ok ss f true j s hs) _ _ (h.act _ _)
    · exact h
  | f + 1, true, k, s, h => by
    rw [go_over]
    exact behind_ok (fun j s hs => go_ok ss f false j s hs) (fun j s hs => go_ok ss f true j s hs) _ _ (h.idle _)
end Kc
end Go.Proofs.YtkelmhkakdeghaaGreatDoor
/- The fault of a chart, told plainly. -/
namespace Go.Proofs.YtkelmhkakdeghaaGreatDoor
set_option linter.unusedVariables false
namespace Kc
open Ex (inR evalCode evalVal vFault hid)
open St (StepD)
open Ch (RunD)
open Pf
def fA (r : RunD) : Nat → Int := fun i => r.marks.getD i 0
def fD (r : RunD) : Nat → Int := fun i => r.dues.getD i 0
theorem fA_eq {r : RunD} {i : Nat} (h : i < r.marks.length) : fA r i = r.marks[i] := by unfold fA; rw [List.getD_eq_getElem?_getD, List.getElem?_eq_getElem h]; rfl
theorem fD_eq {r : RunD} {i : Nat} (h : i < r.dues.length) : fD r i = r.dues[i] := by unfold fD; rw [List.getD_eq_getElem?_getD, List.getElem?_eq_getElem h]; rfl
def within (l : List Int) (m : Int) : Bool := l.all fun x => inR x 0 m
def stateC (st now : Int) (vars : List Int) : Int := if inR st 1 3 = false then 3 else if inR now 0 1000000 = false then 3 else vFault vars
def numC (n : Nat) (r : RunD) : Int :=
  if stateC r.status r.now r.vars ≠ 0 then stateC r.status r.now r.vars else if r.marks.length ≠ n then 2 else if r.dues.length ≠ n then 2 else if within r.marks 2 = false then 3 else if within r.dues (r.now + 99) = false then 3 else 0
def cntK (A : Nat → Int) (l : List Nat) (v : Int) : Nat := (l.filter fun j => A j == v).length
theorem cntK_nil (A : Nat → Int) (v : Int) : cntK A [] v = 0 := rfl
theorem cntK_snoc (A : Nat → Int) (l : List Nat) (j : Nat) (v : Int) : cntK A (l ++ [j]) v = cntK A l v + (if A j = v then 1 else 0) := by
  unfold cntK
  rw [List.filter_append, List.length_append]
  by_cases h : A j = v <;> simp [h]
theorem cntK_le (A : Nat → Int) (l : List Nat) (v : Int) : cntK A l v ≤ l.length := List.length_filter_le _ _
theorem cntK_two (A : Nat → Int) : ∀ (l : List Nat), cntK A l 1 + cntK A l 2 ≤ l.length
  | [] => Nat.le_refl _
  | a :: l => by
    have := cntK_two A l
    unfold cntK at this ⊢
    simp only [List.filter_cons, List.length_cons]
    by_cases h1 : A a = 1
    · simp [h1]; omega
    · by_cases h2 : A a = 2
      · simp [h2]; omega
      · simp [h1, h2]; omega
/-- Does what is on at a step not go with its kids, or with its due? (as the specification asks it) -/
def wrongP (ss : List StepD) (A D : Nat → Int) (k : Nat) : Bool :=
  if A k ≠ 1 then decide (0 < cntK A (kidsL ss k) 1 + cntK A (kidsL ss k) 2) || (D k != 0)
  else if (PJ ss k).kind = 1 ∨ (PJ ss k).kind = 3 then (cntK A (kidsL ss k) 1 != 1) || decide (0 < cntK A (kidsL ss k) 2) || (D k != 0)
  else if (PJ ss k).kind = 4 then decide (cntK A (kidsL ss k) 1 < 1) || (cntK A (kidsL ss k) 1 + cntK A (kidsL ss k) 2 != (kidsL ss k).length) || (D k != 0)
  else if (PJ ss k).kind = 8 then (cntK A (kidsL ss k) 1 != 1) || decide (0 < cntK A (kidsL ss k) 2) || ((D k != 0) != (A (kid ss k 0) == 1))
  else if (PJ ss k).kind = 6 then !(D k != 0)
  else if (PJ ss k).kind = 7 then true
  else (D k != 0)
def zeros (l : List Int) : Bool := l.all fun x => x == 0
def fitsP (ss : List StepD) (r : RunD) : Bool :=
  if r.status ≠ 1 then zeros r.marks && zeros r.dues else (fA r 0 == 1) && (List.range ss.length).all fun k => !wrongP ss (fA r) (fD r) k
def chartC (ss : List StepD) (r : RunD) : Int :=
  if pFault ss ≠ 0 then pFault ss else if numC ss.length r ≠ 0 then numC ss.length r else if fitsP ss r = true then 0 else 1
theorem c_proc {ss : List StepD} {r : RunD} (h : pFault ss ≠ 0) : chartC ss r = pFault ss := by unfold chartC; rw [if_pos h]
theorem c_num {ss : List StepD} {r : RunD} (h : pFault ss = 0) (h2 : numC ss.length r ≠ 0) : chartC ss r = numC ss.length r := by unfold chartC; rw [if_neg (by simp [h]), if_pos h2]
theorem c_form {ss : List StepD} {r : RunD} (h : pFault ss = 0) (h2 : numC ss.length r = 0) (h3 : fitsP ss r = false) : chartC ss r = 1 := by unfold chartC; rw [if_neg (by simp [h]), if_neg (by simp [h2]), if_neg (by simp [h3])]
theorem c_ok {ss : List StepD} {r : RunD} (h : pFault ss = 0) (h2 : numC ss.length r = 0) (h3 : fitsP ss r = true) : chartC ss r = 0 := by unfold chartC; rw [if_neg (by simp [h]), if_neg (by simp [h2]), if_pos h3]
theorem of_c {ss : List StepD} {r : RunD} (h : chartC ss r = 0) : pFault ss = 0 ∧ numC ss.length r = 0 ∧ fitsP ss r = true := by
  by_cases h1 : pFault ss = 0
  · by_cases h2 : numC ss.length r = 0
    · cases h3 : fitsP ss r
      · rw [c_form h1 h2 h3] at h; cases h
      · exact ⟨h1, h2, rfl⟩
    · rw [c_num h1 h2] at h; exact absurd h h2
  · rw [c_proc h1] at h; exact absurd h h1
theorem num_state {n : Nat} {r : RunD} (h : stateC r.status r.now r.vars ≠ 0) : numC n r = stateC r.status r.now r.vars := by unfold numC; rw [if_pos h]
theorem num_len {n : Nat} {r : RunD} (h : stateC r.status r.now r.vars = 0) (h2 : ¬ (r.marks.length = n ∧ r.dues.length = n)) : numC n r = 2 := by
  unfold numC
  rw [if_neg (by simp [h])]
  by_cases h3 : r.marks.length = n
  · rw [if_neg (by simp [h3]), if_pos (fun e => h2 ⟨h3, e⟩)]
  · rw [if_pos h3]
theorem num_range {n : Nat} {r : RunD} (h : stateC r.status r.now r.vars = 0) (h1 : r.marks.length = n) (h2 : r.dues.length = n) (h3 : (within r.marks 2 && within r.dues (r.now + 99)) = false) : numC n r = 3 := by
  unfold numC
  rw [if_neg (by simp [h]), if_neg (by simp [h1]), if_neg (by simp [h2])]
  cases h4 : within r.marks 2
  · rw [if_pos rfl]
  · rw [h4] at h3
    rw [if_neg (by simp), if_pos (by simpa using h3)]
theorem num_ok {n : Nat} {r : RunD} (h : stateC r.status r.now r.vars = 0) (h1 : r.marks.length = n) (h2 : r.dues.length = n) (h3 : within r.marks 2 = true) (h4 : within r.dues (r.now + 99) = true) : numC n r = 0 := by
  unfold numC
  rw [if_neg (by simp [h]), if_neg (by simp [h1]), if_neg (by simp [h2]), if_neg (by simp [h3]), if_neg (by simp [h4])]
theorem of_num {n : Nat} {r : RunD} (h : numC n r = 0) : stateC r.status r.now r.vars = 0 ∧ r.marks.length = n ∧ r.dues.length = n ∧ within r.marks 2 = true ∧ within r.dues (r.now + 99) = true := by
  by_cases h1 : stateC r.status r.now r.vars = 0
  · by_cases h2 : r.marks.length = n ∧ r.dues.length = n
    · cases h3 : (within r.marks 2 && within r.dues (r.now + 99))
      · rw [num_range h1 h2.1 h2.2 h3] at h; cases h
      · simp only [Bool.and_eq_true] at h3
        exact ⟨h1, h2.1, h2.2, h3.1, h3.2⟩
    · rw [num_len h1 h2] at h; cases h
  · rw [num_state h1] at h; exact absurd h h1
theorem st_status {st now : Int} {vars : List Int} (h : inR st 1 3 = false) : stateC st now vars = 3 := by unfold stateC; rw [if_pos h]
theorem st_now {st now : Int} {vars : List Int} (h : inR st 1 3 = true) (h2 : inR now 0 1000000 = false) : stateC st now vars = 3 := by unfold stateC; rw [if_neg (by simp [h]), if_pos h2]
theorem st_vars {st now : Int} {vars : List Int} (h : inR st 1 3 = true) (h2 : inR now 0 1000000 = true) : stateC st now vars = vFault vars := by unfold stateC; rw [if_neg (by simp [h]), if_neg (by simp [h2])]
theorem of_state {st now : Int} {vars : List Int} (h : stateC st now vars = 0) : inR st 1 3 = true ∧ inR now 0 1000000 = true ∧ vFault vars = 0 := by
  cases h1 : inR st 1 3
  · rw [st_status h1] at h; cases h
  · cases h2 : inR now 0 1000000
    · rw [st_now h1 h2] at h; cases h
    · exact ⟨rfl, rfl, (st_vars h1 h2) ▸ h⟩
theorem within_take {l : List Int} {m : Int} {i : Nat} (hi : i < l.length) : within (l.take (i + 1)) m = (within (l.take i) m && inR l[i] 0 m) := by
  unfold within
  rw [List.take_succ_eq_append_getElem hi, List.all_append]
  simp
theorem within_all {l : List Int} {m : Int} (h : within l m = true) {i : Nat} (hi : i < l.length) : 0 ≤ l[i] ∧ l[i] ≤ m := by
  unfold within at h
  rw [List.all_eq_true] at h
  exact Ex.inR_iff.1 (h _ (List.getElem_mem hi))
theorem within_bad {l : List Int} {m : Int} {i : Nat} (hi : i < l.length) (h : inR l[i] 0 m = false) : within l m = false := by
  unfold within
  rw [List.all_eq_false]
  exact ⟨_, List.getElem_mem hi, by simp [h]⟩
theorem zeros_take {l : List Int} {i : Nat} (hi : i < l.length) : zeros (l.take (i + 1)) = (zeros (l.take i) && (l[i] == 0)) := by
  unfold zeros
  rw [List.take_succ_eq_append_getElem hi, List.all_append]
  simp
theorem kids_none {ss : List StepD} {k : Nat} (hp : pFault ss = 0) (hk : k < ss.length) (h : (PJ ss k).kind = 2 ∨ (PJ ss k).kind = 5 ∨ (PJ ss k).kind = 6 ∨ (PJ ss k).kind = 7) : kidsL ss k = [] := by
  have := many hp hk
  rcases h with h | h | h | h <;> rw [h] at this <;> simpa [manyOk] using this
theorem kind_in {ss : List StepD} {k : Nat} (hp : pFault ss = 0) (hk : k < ss.length) : 1 ≤ (PJ ss k).kind ∧ (PJ ss k).kind ≤ 8 := by
  have h := (of_one (first_all (of_p hp).2.1 hk)).1
  unfold formOk at h
  simp only [Bool.and_eq_true] at h
  exact Ex.inR_iff.1 h.1
/-- The same, as the program asks it. -/
def rightKids (ss : List StepD) (A : Nat → Int) (k : Nat) : Bool :=
  if (kidsL ss k).length = 0 then true
  else if A k ≠ 1 then (cntK A (kidsL ss k) 1 == 0) && (cntK A (kidsL ss k) 2 == 0)
  else if (PJ ss k).kind = 4 then decide (0 < cntK A (kidsL ss k) 1) && (cntK A (kidsL ss k) 1 + cntK A (kidsL ss k) 2 == (kidsL ss k).length)
  else (cntK A (kidsL ss k) 1 == 1) && (cntK A (kidsL ss k) 2 == 0)
def rightDue (ss : List StepD) (A D : Nat → Int) (k : Nat) : Bool :=
  if (PJ ss k).kind = 6 then (D k != 0) == (A k == 1)
  else if (PJ ss k).kind = 8 then (D k != 0) == (A (kid ss k 0) == 1)
  else !(D k != 0)
def badP (ss : List StepD) (A D : Nat → Int) (k : Nat) : Bool := ((PJ ss k).kind == 7 && A k == 1) || !rightKids ss A k || !rightDue ss A D k
theorem cnt_pos {A : Nat → Int} {l : List Nat} {j : Nat} {v : Int} (hj : j ∈ l) (h : A j = v) : 0 < cntK A l v := by
  unfold cntK
  exact List.length_pos_of_mem (List.mem_filter.2 ⟨hj, by simp [h]⟩)
theorem bad_wrong' (kind ak a0 dk : Int) (on ov n : Nat) (h1 : 1 ≤ kind) (h8 : kind ≤ 8) (hn : kind = 1 ∨ kind = 3 ∨ kind = 4 ∨ kind = 8 → n ≠ 0) (hz : kind = 2 ∨ kind = 5 ∨ kind = 6 ∨ kind = 7 → n = 0 ∧ on = 0 ∧ ov = 0) (h0 : kind = 8 → a0 = 1 → 0 < on) :
    ((kind == 7 && ak == 1) || !(if n = 0 then true else if ak ≠ 1 then (on == 0) && (ov == 0) else if kind = 4 then decide (0 < on) && (on + ov == n) else (on == 1) && (ov == 0)) || !(if kind = 6 then (dk != 0) == (ak == 1) else if kind = 8 then (dk != 0) == (a0 == 1) else !(dk != 0))) =
    (if ak ≠ 1 then decide (0 < on + ov) || (dk != 0) else if kind = 1 ∨ kind = 3 then (on != 1) || decide (0 < ov) || (dk != 0) else if kind = 4 then decide (on < 1) || (on + ov != n) || (dk != 0) else if kind = 8 then (on != 1) || decide (0 < ov) || ((dk != 0) != (a0 == 1)) else if kind = 6 then !(dk != 0) else if kind = 7 then true else (dk != 0)) := by
  have c8 : kind = 1 ∨ kind = 3 ∨ kind = 4 ∨ kind = 8 ∨ kind = 2 ∨ kind = 5 ∨ kind = 6 ∨ kind = 7 := by omega
  rw [Bool.eq_iff_iff]
  obtain ⟨pa, ea⟩ : ∃ pa, pa = (ak == 1) := ⟨_, rfl⟩
  obtain ⟨pd, ed⟩ : ∃ pd, pd = (dk != 0) := ⟨_, rfl⟩
  obtain ⟨px, ex⟩ : ∃ px, px = (a0 == 1) := ⟨_, rfl⟩
  rw [← ea, ← ed, ← ex]
  have fa : ak = 1 ↔ pa = true := by rw [ea]; simp
  have fx : a0 = 1 ↔ px = true := by rw [ex]; simp
  rw [fx] at h0
  simp only [ne_eq, fa]
  clear ea ed ex fa fx
  cases pa <;> cases pd <;> cases px
  all_goals
    rcases c8 with rfl | rfl | rfl | rfl | rfl | rfl | rfl | rfl
  all_goals
    simp at hn hz h0 ⊢
  all_goals
    first | omega | (simp [hn]; done) | (simp [hn]; omega) | (simp [hz]; done) | (simp [hz]; omega) | skip
theorem bad_wrong {ss : List StepD} (A D : Nat → Int) {k : Nat} (hp : pFault ss = 0) (hk : k < ss.length) : badP ss A D k = wrongP ss A D k := by
  obtain ⟨h1, h8⟩ := kind_in hp hk
  unfold badP wrongP rightKids rightDue
  refine bad_wrong' _ _ _ _ _ _ _ h1 h8 (fun h => ?_) (fun h => ?_) (fun h ha => ?_)
  · rcases h with h | h | h | h
    · have := kids_seq hp hk h; omega
    · have := kids_two hp hk (.inl h); omega
    · have := kids_two hp hk (.inr h); omega
    · have := kids_guard hp hk h; omega
  · rw [kids_none hp hk h]
    exact ⟨rfl, rfl, rfl⟩
  · have := kids_guard hp hk h
    exact cnt_pos (kid_in (by omega)) ha
end Kc
end Go.Proofs.YtkelmhkakdeghaaGreatDoor
