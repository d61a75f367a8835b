/- The chart, told plainly: what comes of it where a step is entered, and where one is over. -/
import Derived.Test.YtpmlialjoonpeaaGreatDoorJEF37
import Derived.Test.YtpmlialjoonpeaaGreatDoorJEF38
import Derived.Test.YtpmlialjoonpeaaGreatDoorJEF10
namespace Go.Proofs.YtpmlialjoonpeaaGreatDoor
set_option linter.unusedVariables false
namespace Kc
open Ex (inR evalCode evalVal vFault)
open St (StepD)
open Pf
open Pl (deepG)
/-- A chart under way. -/
structure CS where
  status : Int
  now : Int
  vars : List Int
  acts : Nat → Int
  dues : Nat → Int
def upd (f : Nat → Int) (i : Nat) (v : Int) : Nat → Int := fun j => if j = i then v else f j
def zer (f : Nat → Int) (i e : Nat) : Nat → Int := fun j => if i ≤ j ∧ j < e then 0 else f j
def endOf (ss : List StepD) (k : Nat) : Nat := k + (underN ss k).length
def stopped (s : CS) (st : Int) : CS := ⟨st, s.now, s.vars, fun _ => 0, fun _ => 0⟩
def act (s : CS) (k : Nat) (v : Int) : CS := { s with acts := upd s.acts k v }
def due (s : CS) (k : Nat) (v : Int) : CS := { s with dues := upd s.dues k v }
def setV (s : CS) (k : Nat) (v : Int) : CS := { s with vars := s.vars.set k v }
def idle (ss : List StepD) (s : CS) (k : Nat) : CS := { s with acts := zer s.acts k (endOf ss k), dues := zer s.dues k (endOf ss k) }
def pick (ss : List StepD) (vars : List Int) : List Nat → Option Nat
  | [] => none
  | k :: ks => if (PJ ss k).cond.length = 0 then some k else if evalCode (PJ ss k).cond vars ≠ 0 then none else if evalVal (PJ ss k).cond vars = 1 then some k else pick ss vars ks
/-- The one behind k. -/
def aft : List Nat → Nat → Option Nat
  | a :: b :: r, k => if a = k then some b else aft (b :: r) k
  | _, _ => none
def allOver (s : CS) (ks : List Nat) : Bool := ks.all fun k => s.acts k == 2
def kid (ss : List StepD) (k i : Nat) : Nat := (kidsL ss k).getD i 0
/-- What entering a step asks for beside that it is on. -/
def beginG (E O : Nat → CS → CS) (ss : List StepD) (k : Nat) (s : CS) : CS :=
  if (PJ ss k).kind = 1 then E (kid ss k 0) s
  else if (PJ ss k).kind = 3 then (match pick ss s.vars (kidsL ss k) with | some j => E j s | none => stopped s 3)
  else if (PJ ss k).kind = 4 then (kidsL ss k).foldl (fun s j => E j s) s
  else if (PJ ss k).kind = 6 then due s k (s.now + (PJ ss k).arg)
  else if (PJ ss k).kind = 7 then (if evalCode (PJ ss k).expr s.vars = 0 then O k (setV s (PJ ss k).arg.toNat (evalVal (PJ ss k).expr s.vars)) else stopped s 3)
  else if (PJ ss k).kind = 8 then E (kid ss k 0) (due s k (s.now + (PJ ss k).arg))
  else s
/-- What the step above does. -/
def behindG (E O : Nat → CS → CS) (ss : List StepD) (k : Nat) (s : CS) : CS :=
  if (PJ ss k).parent < 0 then stopped s 2
  else if (PJ ss (PJ ss k).parent.toNat).kind = 4 then (if allOver (act s k 2) (kidsL ss (PJ ss k).parent.toNat) = true then O (PJ ss k).parent.toNat (act s k 2) else act s k 2)
  else if (PJ ss (PJ ss k).parent.toNat).kind = 1 then (match aft (kidsL ss (PJ ss k).parent.toNat) k with | some j => E j s | none => O (PJ ss k).parent.toNat s)
  else O (PJ ss k).parent.toNat s
/-- A step entered (false), or over (true). -/
def go (ss : List StepD) : Nat → Bool → Nat → CS → CS
  | 0, _, _, s => s
  | f + 1, false, k, s => if s.status = 1 then beginG (go ss f false) (go ss f true) ss k (act s k 1) else s
  | f + 1, true, k, s => behindG (go ss f false) (go ss f true) ss k (idle ss s k)
theorem go_enter (ss : List StepD) (f k : Nat) (s : CS) : go ss (f + 1) false k s = if s.status = 1 then beginG (go ss f false) (go ss f true) ss k (act s k 1) else s := rfl
theorem go_over (ss : List StepD) (f k : Nat) (s : CS) : go ss (f + 1) true k s = behindG (go ss f false) (go ss f true) ss k (idle ss s k) := rfl
/-! ### places -/
theorem kid_mem {ss : List StepD} {k j : Nat} : j ∈ kidsL ss k ↔ j < ss.length ∧ (PJ ss j).parent = (k : Int) := by
  unfold kidsL kidsN
  rw [List.mem_filter, List.mem_range, beq_iff_eq]
theorem kid_lt {ss : List StepD} {k j : Nat} (hp : pFault ss = 0) (h : j ∈ kidsL ss k) : k < j ∧ j < ss.length := by
  obtain ⟨h1, h2⟩ := kid_mem.1 h
  have := par_lt (first_all (of_p hp).2.1 h1)
  exact ⟨by omega, h1⟩
theorem kids_sorted (ss : List StepD) (k : Nat) : (kidsL ss k).Pairwise (· < ·) := by
  unfold kidsL kidsN
  exact List.Pairwise.filter _ List.pairwise_lt_range
theorem uFrom_end {ss : List StepD} {k : Nat} : ∀ (n i : Nat), i + n = ss.length → k < i → (∀ j, k < j → j < i → deepG ss k < deepG ss j) → Pl.End ss k (i + (uFrom ss k i).length)
  | 0, i, h, hk, hd => by rw [u_end (by omega)]; exact ⟨by simp; omega, by simp; omega, fun j h1 h2 => hd j h1 (by simpa using h2), .inl (by simp; omega)⟩
  | n + 1, i, h, hk, hd => by
    by_cases h1 : dOf ss k < dOf ss i
    · rw [u_step (by omega) h1, List.length_cons]
      have := uFrom_end (ss := ss) (k := k) n (i + 1) (by omega) (by omega) (fun j h2 h3 => by
        by_cases e : j = i
        · rw [e]; exact h1
        · exact hd j h2 (by omega))
      rw [show i + ((uFrom ss k (i + 1)).length + 1) = i + 1 + (uFrom ss k (i + 1)).length by omega]
      exact this
    · rw [u_stop (by omega) h1]
      exact ⟨by simp; omega, by simp; omega, fun j h2 h3 => hd j h2 (by simpa using h3), .inr (by have h4 : deepG ss i ≤ deepG ss k := Nat.not_lt.1 h1; simpa using h4)⟩
theorem end_of {ss : List StepD} {k : Nat} (hk : k < ss.length) : Pl.End ss k (endOf ss k) := by
  have := uFrom_end (ss := ss) (k := k) (ss.length - (k + 1)) (k + 1) (by omega) (by omega) (fun j h1 h2 => by omega)
  unfold endOf underN
  rw [List.length_cons, show k + ((uFrom ss k (k + 1)).length + 1) = k + 1 + (uFrom ss k (k + 1)).length by omega]
  exact this
theorem end_up {ss : List StepD} {k p : Nat} (hp : pFault ss = 0) (h : k ∈ kidsL ss p) : endOf ss k ≤ endOf ss p := by
  obtain ⟨h1, h2⟩ := kid_lt hp h
  have e1 := end_of h2
  have e2 := end_of (ss := ss) (k := p) (by omega)
  have hd := Pl.kid_deep hp (by omega) h
  have hb := Pl.kid_between hp (by omega) h2 (kid_mem.1 h).2
  have hgt : k < endOf ss p := by
    rcases Nat.lt_or_ge k (endOf ss p) with h3 | h3
    · exact h3
    · rcases e2.stop with h4 | h4
      · omega
      · have := hb (endOf ss p) e2.lt h3
        omega
  rcases Nat.lt_or_ge (endOf ss p) (endOf ss k) with h3 | h3
  · have h5 := e1.deep _ hgt h3
    rcases e2.stop with h4 | h4
    · have := e1.le; omega
    · omega
  · exact h3
theorem end_next {ss : List StepD} {k j p : Nat} (hp : pFault ss = 0) (h : k ∈ kidsL ss p) (h2 : j ∈ kidsL ss p) (h3 : k < j) : endOf ss k ≤ j := by
  have a1 := kid_lt hp h
  have d1 := Pl.kid_deep hp (by omega) h
  have d2 := Pl.kid_deep hp (by omega) h2
  rcases Nat.lt_or_ge j (endOf ss k) with h4 | h4
  · have := (end_of a1.2).deep j h3 h4
    omega
  · exact h4
theorem aft_mem : ∀ {l : List Nat} {k j : Nat}, l.Pairwise (· < ·) → aft l k = some j → k ∈ l ∧ j ∈ l ∧ k < j
  | [], k, j, _, h => by simp [aft] at h
  | [a], k, j, _, h => by simp [aft] at h
  | a :: b :: r, k, j, hp, h => by
    rw [aft] at h
    by_cases e : a = k
    · rw [if_pos e] at h
      cases h
      exact ⟨by simp [e], by simp, e ▸ (List.pairwise_cons.1 hp).1 _ (by simp)⟩
    · rw [if_neg e] at h
      obtain ⟨h1, h2, h3⟩ := aft_mem (List.pairwise_cons.1 hp).2 h
      exact ⟨List.mem_cons_of_mem _ h1, List.mem_cons_of_mem _ h2, h3⟩
/-! ### how far it is still -/
def mE (ss : List StepD) (k : Nat) : Nat := 10 * (ss.length - k)
def mO (ss : List StepD) (k : Nat) : Nat := 10 * (ss.length - endOf ss k) + deepG ss k
theorem deep_pos (ss : List StepD) (k : Nat) : 1 ≤ deepG ss k := by unfold deepG; rw [path]; simp
theorem m_kid {ss : List StepD} {k j : Nat} (hp : pFault ss = 0) (h : j ∈ kidsL ss k) : mE ss j < mE ss k := by
  have := kid_lt hp h
  unfold mE
  omega
theorem m_over {ss : List StepD} {k : Nat} (hp : pFault ss = 0) (hk : k < ss.length) : mO ss k < mE ss k := by
  have := Pl.deep_le hp hk
  have h1 := (end_of hk).lt
  have h2 := (end_of hk).le
  unfold mO mE
  omega
theorem m_next {ss : List StepD} {k j p : Nat} (hp : pFault ss = 0) (h : aft (kidsL ss p) k = some j) : mE ss j < mO ss k := by
  obtain ⟨h1, h2, h3⟩ := aft_mem (kids_sorted ss p) h
  have := end_next hp h1 h2 h3
  have := deep_pos ss k
  unfold mE mO
  omega
theorem m_up {ss : List StepD} {k p : Nat} (hp : pFault ss = 0) (h : k ∈ kidsL ss p) : mO ss p < mO ss k := by
  have h1 := end_up hp h
  have h2 := kid_lt hp h
  have h3 := Pl.kid_deep hp (by omega) h
  unfold mO
  omega
theorem up_mem {ss : List StepD} {k : Nat} (hk : k < ss.length) (h : ¬ (PJ ss k).parent < 0) : k ∈ kidsL ss (PJ ss k).parent.toNat := kid_mem.2 ⟨hk, by omega⟩
theorem kid_in {ss : List StepD} {k i : Nat} (h : i < (kidsL ss k).length) : kid ss k i ∈ kidsL ss k := by
  unfold kid
  rw [List.getD_eq_getElem?_getD, List.getElem?_eq_getElem h]
  exact List.getElem_mem h
theorem pick_mem {ss : List StepD} {vars : List Int} : ∀ {l : List Nat} {j : Nat}, pick ss vars l = some j → j ∈ l
  | [], j, h => by simp [pick] at h
  | a :: r, j, h => by
    rw [pick] at h
    by_cases h1 : (PJ ss a).cond.length = 0
    · rw [if_pos h1] at h; cases h; simp
    · rw [if_neg h1] at h
      by_cases h2 : evalCode (PJ ss a).cond vars ≠ 0
      · rw [if_pos h2] at h; cases h
      · rw [if_neg h2] at h
        by_cases h3 : evalVal (PJ ss a).cond vars = 1
        · rw [if_pos h3] at h; cases h; simp
        · rw [if_neg h3] at h
          exact List.mem_cons_of_mem _ (pick_mem h)
/-! ### kinds and kids -/
theorem many {ss : List StepD} {k : Nat} (hp : pFault ss = 0) (hk : k < ss.length) : manyOk (PJ ss k).kind (kidsL ss k).length = true := by
  have h := first_all (of_p hp).2.2.1 hk
  cases hx : manyOk (PJ ss k).kind (kidsL ss k).length
  · rw [link_many hx] at h; cases h
  · rfl
theorem kids_seq {ss : List StepD} {k : Nat} (hp : pFault ss = 0) (hk : k < ss.length) (h : (PJ ss k).kind = 1) : 1 ≤ (kidsL ss k).length := by
  have := many hp hk
  rw [h] at this
  simpa [manyOk] using this
theorem kids_two {ss : List StepD} {k : Nat} (hp : pFault ss = 0) (hk : k < ss.length) (h : (PJ ss k).kind = 3 ∨ (PJ ss k).kind = 4) : 2 ≤ (kidsL ss k).length := by
  have := many hp hk
  rcases h with h | h <;> rw [h] at this <;> simpa [manyOk] using this
theorem kids_guard {ss : List StepD} {k : Nat} (hp : pFault ss = 0) (hk : k < ss.length) (h : (PJ ss k).kind = 8) : (kidsL ss k).length = 2 := by
  have := many hp hk
  rw [h] at this
  simpa [manyOk] using this
/-! ### what stays -/
structure Ok (s : CS) : Prop where
  vars : vFault s.vars = 0
  lo : 0 ≤ s.now
  hi : s.now ≤ 1000000
theorem Ok.stopped {s : CS} (h : Ok s) (st : Int) : Ok (stopped s st) := ⟨h.vars, h.lo, h.hi⟩
theorem Ok.act {s : CS} (h : Ok s) (k : Nat) (v : Int) : Ok (act s k v) := ⟨h.vars, h.lo, h.hi⟩
theorem Ok.due {s : CS} (h : Ok s) (k : Nat) (v : Int) : Ok (due s k v) := ⟨h.vars, h.lo, h.hi⟩
theorem Ok.idle {ss : List StepD} {s : CS} (h : Ok s) (k : Nat) : Ok (idle ss s k) := ⟨h.vars, h.lo, h.hi⟩
theorem eval_in {e : List Nd.NodeD} {vars : List Int} (h : evalCode e vars = 0) : -1000000 ≤ evalVal e vars ∧ evalVal e vars ≤ 1000000 := by
  by_cases ht : Ex.typeCode e = 0
  · by_cases hv : vFault vars = 0
    · cases ho : Ex.evOk e vars
      · rw [(Ex.ev_bad ht hv ho).1] at h; cases h
      · rw [(Ex.ev_ok ht hv ho).2]
        obtain ⟨h0, h16, hok⟩ := Ex.of_e (Ex.of_type ht)
        refine Ex.getD_in (Ex.evs_in hok hv (Nat.le_refl _) (fun j hj => ?_)) (by rw [Ex.evs_len]; omega)
        cases hb : Ex.evBad e vars j
        · rfl
        · rw [Ex.evOk_bad hj hb] at ho; cases ho
    · rw [(Ex.ev_vars ht hv).1] at h; exact absurd h hv
  · rw [(Ex.ev_type ht).1] at h; exact absurd h ht
theorem Ok.setV {s : CS} (h : Ok s) (k : Nat) {v : Int} (hv : -1000000 ≤ v ∧ v ≤ 1000000) : Ok (setV s k v) := by
  refine ⟨?_, h.lo, h.hi⟩
  obtain ⟨h4, hr⟩ := Ex.of_v h.vars
  refine Ex.v_ok (by simp [Kc.setV, h4]) (fun i hi => ?_)
  have hi2 : i < s.vars.length := by simpa [Kc.setV] using hi
  have e : (Kc.setV s k v).vars[i] = if k = i then v else s.vars[i] := List.getElem_set _
  rw [e]
  split
  · exact Ex.inR_iff.2 hv
  · exact hr i hi2
theorem fold_ok {E : Nat → CS → CS} (hE : ∀ j s, Ok s → Ok (E j s)) : ∀ (l : List Nat) (s : CS), Ok s → Ok (l.foldl (fun s j => E j s) s)
  | [], s, h => h
  | a :: r, s, h => fold_ok hE r (E a s) (hE a s h)
theorem begin_ok {E O : Nat → CS → CS} {ss : List StepD} (hE : ∀ j s, Ok s → Ok (E j s)) (hO : ∀ j s, Ok s → Ok (O j s)) (k : Nat) (s : CS) (h : Ok s) : Ok (beginG E O ss k s) := by
  unfold beginG
  split
  · exact hE _ _ h
  · split
    · split
      · exact hE _ _ h
      · exact h.stopped _
    · split
      · exact fold_ok hE _ _ h
      · split
        · exact h.due _ _
        · split
          · split
            · next hc => exact hO _ _ (h.setV _ (eval_in hc))
            · exact h.stopped _
          · split
            · exact hE _ _ (h.due _ _)
            · exact h
theorem behind_ok {E O : Nat → CS → CS} {ss : List StepD} (hE : ∀ j s, Ok s → Ok (E j s)) (hO : ∀ j s, Ok s → Ok (O j s)) (k : Nat) (s : CS) (h : Ok s) : Ok (behindG E O ss k s) := by
  unfold behindG
  split
  · exact h.stopped _
  · split
    · split
      · exact hO _ _ (h.act _ _)
      · exact h.act _ _
    · split
      · split
        · exact hE _ _ h
        · exact hO _ _ h
      · exact hO _ _ h
theorem go_ok (ss : List StepD) : ∀ (f : Nat) (b : Bool) (k : Nat) (s : CS), Ok s → Ok (go ss f b k s)
  | 0, _, _, s, h => h
  | f + 1, false, k, s, h => by
    rw [go_enter]
    split
    · exact begin_ok (fun j s hs => go_ok ss f false j s hs) (fun j s hs => go_ok ss f true j s hs) _ _ (h.act _ _)
    · exact h
  | f + 1, true, k, s, h => by
    rw [go_over]
    exact behind_ok (fun j s hs => go_ok ss f false j s hs) (fun j s hs => go_ok ss f true j s hs) _ _ (h.idle _)
end Kc
end Go.Proofs.YtpmlialjoonpeaaGreatDoor
