/- What an expression comes to, as a plain function, and facts about it. -/
import Derived.Test.YtbojdlkibffcjaaDoorExG
namespace Go.Proofs.YtbojdlkibffcjaaDoor
open Go.RowKit
set_option linter.unusedVariables false
namespace Ex
open Nd (NodeD)
def valAt (ns : List NodeD) (vars vs : List Int) (i : Nat) : Int := if (NJ ns i).kind = 2 then vars.getD (NJ ns i).value.toNat 0 else if 2 < (NJ ns i).kind then oneVal (NJ ns i).kind (vs.getD (NJ ns i).left.toNat 0) (vs.getD (NJ ns i).right.toNat 0) else (NJ ns i).value
def evs (ns : List NodeD) (vars : List Int) : Nat → List Int
  | 0 => []
  | i + 1 => evs ns vars i ++ [valAt ns vars (evs ns vars i) i]
def evBad (ns : List NodeD) (vars : List Int) (i : Nat) : Bool := decide (2 < (NJ ns i).kind) && !oneOk (NJ ns i).kind ((evs ns vars i).getD (NJ ns i).left.toNat 0) ((evs ns vars i).getD (NJ ns i).right.toNat 0)
def evOk (ns : List NodeD) (vars : List Int) : Bool := (List.range ns.length).all (fun j => !evBad ns vars j)
def evalCode (ns : List NodeD) (vars : List Int) : Int := if typeCode ns ≠ 0 then typeCode ns else if vFault vars ≠ 0 then vFault vars else if evOk ns vars = true then 0 else 8
def evalVal (ns : List NodeD) (vars : List Int) : Int := if evalCode ns vars = 0 then (evs ns vars ns.length).getD (ns.length - 1) 0 else 0
theorem ev_type {ns : List NodeD} {vars : List Int} (h : typeCode ns ≠ 0) : evalCode ns vars = typeCode ns ∧ evalVal ns vars = 0 := by
  have e : evalCode ns vars = typeCode ns := by unfold evalCode; rw [if_pos h]
  exact ⟨e, by unfold evalVal; rw [if_neg (by rw [e]; exact h)]⟩
theorem ev_vars {ns : List NodeD} {vars : List Int} (h : typeCode ns = 0) (h2 : vFault vars ≠ 0) : evalCode ns vars = vFault vars ∧ evalVal ns vars = 0 := by
  have e : evalCode ns vars = vFault vars := by unfold evalCode; rw [if_neg (by simp [h]), if_pos h2]
  exact ⟨e, by unfold evalVal; rw [if_neg (by rw [e]; exact h2)]⟩
theorem ev_bad {ns : List NodeD} {vars : List Int} (h : typeCode ns = 0) (h2 : vFault vars = 0) (h3 : evOk ns vars = false) : evalCode ns vars = 8 ∧ evalVal ns vars = 0 := by
  have e : evalCode ns vars = 8 := by unfold evalCode; rw [if_neg (by simp [h]), if_neg (by simp [h2]), if_neg (by simp [h3])]
  exact ⟨e, by unfold evalVal; rw [if_neg (by rw [e]; decide)]⟩
theorem ev_ok {ns : List NodeD} {vars : List Int} (h : typeCode ns = 0) (h2 : vFault vars = 0) (h3 : evOk ns vars = true) : evalCode ns vars = 0 ∧ evalVal ns vars = (evs ns vars ns.length).getD (ns.length - 1) 0 := by
  have e : evalCode ns vars = 0 := by unfold evalCode; rw [if_neg (by simp [h]), if_neg (by simp [h2]), if_pos h3]
  exact ⟨e, by unfold evalVal; rw [if_pos e]⟩
theorem evOk_bad {ns : List NodeD} {vars : List Int} {i : Nat} (hi : i < ns.length) (h : evBad ns vars i = true) : evOk ns vars = false := by
  unfold evOk
  rw [List.all_eq_false]
  exact ⟨i, by simpa using hi, by simp [h]⟩
theorem evOk_all {ns : List NodeD} {vars : List Int} (h : ∀ j, j < ns.length → evBad ns vars j = false) : evOk ns vars = true := by
  unfold evOk
  rw [List.all_eq_true]
  intro j hj
  rw [h j (by simpa using hj)]
  rfl
theorem of_type {ns : List NodeD} (h : typeCode ns = 0) : eFault ns = 0 := by
  unfold typeCode at h
  by_cases e : eFault ns ≠ 0
  · rw [if_pos e] at h; exact absurd h e
  · simpa using e
theorem of_v {xs : List Int} (h : vFault xs = 0) : xs.length = 4 ∧ ∀ i (hi : i < xs.length), inR xs[i] (-1000000) 1000000 = true := by
  unfold vFault at h
  by_cases h1 : xs.length ≠ 4
  · rw [if_pos h1] at h; omega
  · rw [if_neg h1] at h
    by_cases h2 : xs.all (fun x => inR x (-1000000) 1000000) = true
    · exact ⟨by omega, fun i hi => List.all_eq_true.1 h2 _ (List.getElem_mem hi)⟩
    · rw [if_neg h2] at h; omega
theorem evs_len (ns : List NodeD) (vars : List Int) : ∀ i, (evs ns vars i).length = i
  | 0 => rfl
  | i + 1 => by rw [evs, List.length_append, evs_len ns vars i]; rfl
theorem v_const {n : NodeD} {i : Int} (h : nCode n i = 0) (hk : n.kind = 1) : 0 ≤ n.value ∧ n.value ≤ 9999 := by
  have h3 := (of_n h).2.2.1
  unfold wide at h3
  simp only [hk, Bool.or_eq_false_iff, Bool.and_eq_false_iff, Bool.not_eq_false'] at h3
  rcases h3.1 with h4 | h4
  · simp at h4
  · exact inR_iff.1 h4
theorem v_var {n : NodeD} {i : Int} (h : nCode n i = 0) (hk : n.kind = 2) : 0 ≤ n.value ∧ n.value ≤ 3 := by
  have h3 := (of_n h).2.2.1
  unfold wide at h3
  simp only [hk, Bool.or_eq_false_iff, Bool.and_eq_false_iff, Bool.not_eq_false'] at h3
  rcases h3.2 with h4 | h4
  · simp at h4
  · exact inR_iff.1 h4
theorem v_not {n : NodeD} {i : Int} (h : nCode n i = 0) (hk : n.kind = 10) : n.right = 0 := by
  have h3 := (of_n h).2.1
  unfold has at h3
  simp only [hk, Bool.or_eq_false_iff, Bool.and_eq_false_iff] at h3
  rcases h3.2 with h4 | h4
  · simp at h4
  · simpa using h4
/-- All values so far are within the bounds. -/
theorem evs_in {ns : List NodeD} {vars : List Int} (hok : ∀ k, k < ns.length → nCode (NJ ns k) k = 0) (hv : vFault vars = 0) : ∀ {i : Nat}, i ≤ ns.length → (∀ j, j < i → evBad ns vars j = false) → ∀ x ∈ evs ns vars i, -1000000 ≤ x ∧ x ≤ 1000000
  | 0, _, _, x, hx => by simp [evs] at hx
  | i + 1, hi, hb, x, hx => by
    rw [evs] at hx
    rcases List.mem_append.1 hx with h | h
    · exact evs_in hok hv (by omega) (fun j hj => hb j (by omega)) x h
    · obtain rfl := List.mem_singleton.1 h
      have hn := hok i (by omega)
      have hk := inR_iff.1 (of_n hn).1
      obtain ⟨h4, hall⟩ := of_v hv
      unfold valAt
      by_cases k2 : (NJ ns i).kind = 2
      · rw [if_pos k2]
        have h5 := v_var hn k2
        have hlt : (NJ ns i).value.toNat < vars.length := by omega
        have h6 := inR_iff.1 (hall _ hlt)
        rw [List.getD_eq_getElem?_getD, List.getElem?_eq_getElem hlt]
        simpa using h6
      · rw [if_neg k2]
        by_cases k3 : 2 < (NJ ns i).kind
        · rw [if_pos k3]
          have h5 := hb i (by omega)
          unfold evBad at h5
          simp only [k3, decide_true, Bool.true_and, Bool.not_eq_false'] at h5
          unfold oneOk at h5
          simp only [Bool.and_eq_true] at h5
          exact inR_iff.1 h5.2
        · rw [if_neg k3]
          have h5 := v_const hn (by omega)
          omega
def iVals (l : List Int) : List Value := l.map fun x => .int .i64 x
theorem i_cell {w : World} {base g cap j n : Nat} {e : TypeId} {l : List Int} (h : w.ownsRow base e 1 (.slice (some ⟨g, 0, none⟩) n cap) n (iVals l)) (hl : l.length = n) (hj : j < n) : w.cell? ⟨g, j, none⟩ = some (.int .i64 (l.getD j 0)) := by
  have h1 := owns_cell h hj (by simp [iVals]; omega)
  rw [List.getD_eq_getElem?_getD, List.getElem?_eq_getElem (by omega)]
  simpa [iVals] using h1
theorem iVals_snoc (l : List Int) (x : Int) : iVals (l ++ [x]) = iVals l ++ [.int .i64 x] := by simp [iVals]
theorem getD_in {l : List Int} (h : ∀ x ∈ l, -1000000 ≤ x ∧ x ≤ 1000000) {j : Nat} (hj : j < l.length) : -1000000 ≤ l.getD j 0 ∧ l.getD j 0 ≤ 1000000 := by
  rw [List.getD_eq_getElem?_getD, List.getElem?_eq_getElem hj]
  exact h _ (List.getElem_mem hj)
end Ex
end Go.Proofs.YtbojdlkibffcjaaDoor
