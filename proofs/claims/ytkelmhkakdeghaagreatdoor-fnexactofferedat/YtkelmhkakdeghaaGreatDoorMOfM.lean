/- Offers, plainly: who claims a task, and the tasks that are open and not claimed, by instance, then step. -/
import Derived.Test.YtkelmhkakdeghaaGreatDoorJOF36
import Derived.Test.YtkelmhkakdeghaaGreatDoorJOF15
namespace Go.Proofs.YtkelmhkakdeghaaGreatDoor
open Go.RowKit Go.Deep
set_option linter.unusedVariables false
namespace Of
open Dk (DeskD deskC openT openP open_lt instD instD_eq hasI inst_ok of_d of_claims of_claim of_one CJ CJ_eq isU ents ent open_len)
open Cl (ClD)
open En (EngD)
open Eg (engC stepsD stepsD_eq hasP_in of_e)
def isAt (c : ClD) (i s : Int) : Bool := c.inst == i && c.step == s
/-- Who claims a task; 0: nobody. -/
def who : List ClD → Int → Int → Int
  | [], _, _ => 0
  | c :: l, i, s => if isAt c i s = true then c.user else who l i s
theorem who_step {cs : List ClD} {i s : Int} {k : Nat} (h : k < cs.length) : who (cs.drop k) i s = if isAt cs[k] i s = true then cs[k].user else who (cs.drop (k + 1)) i s := by
  rw [List.drop_eq_getElem_cons h]; rfl
theorem who_yes {cs : List ClD} {i s : Int} {k : Nat} (h : k < cs.length) (h2 : isAt cs[k] i s = true) : who (cs.drop k) i s = cs[k].user := by rw [who_step h, if_pos h2]
theorem who_no {cs : List ClD} {i s : Int} {k : Nat} (h : k < cs.length) (h2 : isAt cs[k] i s = false) : who (cs.drop k) i s = who (cs.drop (k + 1)) i s := by rw [who_step h, if_neg (by simp [h2])]
theorem who_end {cs : List ClD} {i s : Int} {k : Nat} (h : cs.length ≤ k) : who (cs.drop k) i s = 0 := by rw [List.drop_eq_nil_of_le h]; rfl
/-- Either somebody does, and has an entry, or there is none. -/
theorem who_or : ∀ (cs : List ClD) (i s : Int), ((((i, s), Value.int .i64 (who cs i s)) : Mp.Ent) ∈ ents cs) ∨ ((i, s) ∉ (ents cs).map (·.1) ∧ who cs i s = 0)
  | [], i, s => .inr ⟨by simp [ents], rfl⟩
  | c :: l, i, s => by
    by_cases h : isAt c i s = true
    · left
      unfold who
      rw [if_pos h]
      unfold isAt at h
      simp at h
      simp [ents, ent, h.1, h.2]
    · unfold who
      rw [if_neg h]
      rcases who_or l i s with h1 | ⟨h1, h2⟩
      · left
        unfold ents at h1 ⊢
        rw [List.map_cons]
        exact List.mem_cons_of_mem _ h1
      · right
        refine ⟨?_, h2⟩
        unfold ents at h1 ⊢
        rw [List.map_cons, List.map_cons, List.mem_cons, not_or]
        refine ⟨fun e => h ?_, h1⟩
        unfold ent at e
        simp at e
        unfold isAt
        simp [e.1, e.2]
def offB (e : EngD) (cs : List ClD) (i s : Nat) : Bool := openT e i s && who cs i s == 0
/-- The offers of an instance, of its first n steps. -/
def stepO (e : EngD) (cs : List ClD) (i : Nat) : Nat → List ClD
  | 0 => []
  | s + 1 => stepO e cs i s ++ if offB e cs i s = true then [⟨i, s, 0⟩] else []
def lenI (e : EngD) (i : Nat) : Nat := (stepsD e (instD e i).proc).length
/-- The offers of the first m instances. -/
def instO (e : EngD) (cs : List ClD) : Nat → List ClD
  | 0 => []
  | i + 1 => instO e cs i ++ stepO e cs i (lenI e i)
def offL (d : DeskD) : List ClD := if deskC d = 0 then instO d.eng d.claims d.eng.insts.length else []
theorem off_nil {d : DeskD} (h : deskC d ≠ 0) : offL d = [] := by unfold offL; rw [if_neg h]
theorem off_ok {d : DeskD} (h : deskC d = 0) : offL d = instO d.eng d.claims d.eng.insts.length := by unfold offL; rw [if_pos h]
theorem stepO_len (e : EngD) (cs : List ClD) (i : Nat) : ∀ n, (stepO e cs i n).length ≤ n
  | 0 => Nat.le_refl _
  | n + 1 => by
    have := stepO_len e cs i n
    unfold stepO
    rw [List.length_append]
    split <;> simp <;> omega
/-- Beyond its steps an instance offers nothing. -/
theorem stepO_more {e : EngD} {cs : List ClD} {i n : Nat} (h : lenI e i ≤ n) : stepO e cs i n = stepO e cs i (lenI e i) := by
  obtain ⟨k, rfl⟩ := Nat.exists_eq_add_of_le h
  induction k with
  | zero => rfl
  | succ k ih =>
    have ho : offB e cs i (lenI e i + k) = false := by
      unfold offB
      cases hh : openT e (i : Int) ((lenI e i + k : Nat) : Int)
      · rfl
      · have h1 := (open_lt hh).2
        rw [Int.toNat_natCast] at h1
        unfold lenI at h1
        omega
    have e1 : stepO e cs i (lenI e i + (k + 1)) = stepO e cs i (lenI e i + k) ++ if offB e cs i (lenI e i + k) = true then [⟨i, (lenI e i + k : Nat), 0⟩] else [] := rfl
    rw [e1, ho, if_neg (by simp), List.append_nil]
    exact ih (Nat.le_add_right _ _)
theorem len_24 {e : EngD} (h : engC e = 0) {i : Nat} (hi : i < e.insts.length) : lenI e i ≤ 24 := by
  unfold lenI
  rw [instD_eq hi]
  have := Pf.of_p (inst_ok h hi).2.2
  omega
theorem instO_len {e : EngD} (h : engC e = 0) (cs : List ClD) : ∀ m, m ≤ e.insts.length → (instO e cs m).length ≤ 24 * m
  | 0, _ => Nat.le_refl _
  | m + 1, hm => by
    have h1 := instO_len h cs m (by omega)
    have h2 := stepO_len e cs m (lenI e m)
    have h3 := len_24 h (i := m) (by omega)
    unfold instO
    rw [List.length_append]
    omega
theorem off_len {d : DeskD} (h : Dk.Small 1048576 d) : (offL d).length ≤ 1048576 := by
  by_cases hd : deskC d = 0
  · rw [off_ok hd]
    have he := (of_d hd).1
    have h1 := instO_len he d.claims _ (Nat.le_refl _)
    have h2 := (of_e he).1
    omega
  · rw [off_nil hd]; simp
end Of
end Go.Proofs.YtkelmhkakdeghaaGreatDoor
