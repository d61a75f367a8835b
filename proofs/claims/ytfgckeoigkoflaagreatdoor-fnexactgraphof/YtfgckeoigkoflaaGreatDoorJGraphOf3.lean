/- Laid together: GfM, NmA, GiA. -/
import Derived.Test.YtfgckeoigkoflaaGreatDoorJGraphOf2
import Derived.Test.YtfgckeoigkoflaaGreatDoorProg
import Derived.Below
import Derived.WalkSpells
import Derived.WalkLawsBesides
import Derived.Deep.QuietTactic
import Derived.BigQuiet
/- Graphs, plainly: what is wrong with one. -/
namespace Go.Proofs.YtfgckeoigkoflaaGreatDoor
set_option linter.unusedVariables false
namespace Gr
open Ex (inR)
open Nd (NodeD)
open Gn (GNodeD)
open Fl (FlowD)
open Tr (nf)
structure GraphD where
  nodes : List GNodeD
  flows : List FlowD
def NJ (l : List GNodeD) (i : Nat) : GNodeD := l[i]?.getD ⟨0, 0, ByteArray.empty, 0, []⟩
def FJ (l : List FlowD) (i : Nat) : FlowD := l[i]?.getD ⟨0, 0, []⟩
theorem NJ_eq {l : List GNodeD} {i : Nat} (h : i < l.length) : NJ l i = l[i] := by unfold NJ; rw [List.getElem?_eq_getElem h, Option.getD_some]
theorem FJ_eq {l : List FlowD} {i : Nat} (h : i < l.length) : FJ l i = l[i] := by unfold FJ; rw [List.getElem?_eq_getElem h, Option.getD_some]
def firstC (f : Nat → Int) : Nat → Int
  | 0 => 0
  | n + 1 => if firstC f n ≠ 0 then firstC f n else f n
theorem first_next {f : Nat → Int} {i : Nat} (h : firstC f i = 0) (hb : f i = 0) : firstC f (i + 1) = 0 := by
  rw [firstC, if_neg (by simp [h]), hb]
theorem first_keep {f : Nat → Int} : ∀ {n m : Nat}, m ≤ n → firstC f m ≠ 0 → firstC f n = firstC f m
  | 0, m, h, hm => by obtain rfl : m = 0 := by omega
                      rfl
  | n + 1, m, h, hm => by
    by_cases e : m = n + 1
    · subst e; rfl
    · have := first_keep (n := n) (by omega) hm
      rw [firstC, if_pos (by rw [this]; exact hm), this]
theorem first_bad {f : Nat → Int} {n i : Nat} (hi : i < n) (h : firstC f i = 0) (hb : f i ≠ 0) : firstC f n = f i := by
  have e : firstC f (i + 1) = f i := by rw [firstC, if_neg (by simp [h])]
  rw [first_keep hi (by rw [e]; exact hb), e]
def argK (k : Int) : Bool := inR k 4 6 || (k == 11)
def endK (k : Int) : Bool := (k == 1) || (k == 2)
/-- Has a node nothing that its kind has not? -/
def bare (n : GNodeD) : Bool := ((n.kind == 3) || n.name.toList.isEmpty) && (argK n.kind || (n.arg == 0)) && ((n.kind == 6) || ((n.expr.length : Int) == 0)) && (!endK n.kind || (n.step == 0))
def nodeC (n : GNodeD) : Int := if inR n.kind 1 13 = false ∨ bare n = false then 1 else if inR n.step 0 23 = false ∨ inR n.arg 0 99 = false then 3 else if (16 : Int) < n.expr.length then 2 else if n.kind = 3 then nf n.name.data.toList else 0
def flowC (g : GraphD) (i : Nat) : Int := if inR (FJ g.flows i).src 0 ((g.nodes.length : Int) - 1) = false ∨ inR (FJ g.flows i).dst 0 ((g.nodes.length : Int) - 1) = false then 3 else if (16 : Int) < (FJ g.flows i).cond.length then 2 else if 0 < i ∧ (FJ g.flows i).src < (FJ g.flows (i - 1)).src then 1 else 0
def gFault (g : GraphD) : Int := if g.nodes.length < 2 ∨ 60 < g.nodes.length ∨ 80 < g.flows.length then 2 else if firstC (fun i => nodeC (NJ g.nodes i)) g.nodes.length ≠ 0 then firstC (fun i => nodeC (NJ g.nodes i)) g.nodes.length else firstC (flowC g) g.flows.length
theorem g_many {g : GraphD} (h : g.nodes.length < 2 ∨ 60 < g.nodes.length ∨ 80 < g.flows.length) : gFault g = 2 := by unfold gFault; rw [if_pos h]
theorem g_node {g : GraphD} (h : ¬ (g.nodes.length < 2 ∨ 60 < g.nodes.length ∨ 80 < g.flows.length)) {i : Nat} (hi : i < g.nodes.length) (h0 : firstC (fun i => nodeC (NJ g.nodes i)) i = 0) (hb : nodeC (NJ g.nodes i) ≠ 0) : gFault g = nodeC (NJ g.nodes i) := by
  have e := first_bad (f := fun i => nodeC (NJ g.nodes i)) hi h0 hb
  unfold gFault; rw [if_neg h, if_pos (by rw [e]; exact hb), e]
theorem g_flow {g : GraphD} (h : ¬ (g.nodes.length < 2 ∨ 60 < g.nodes.length ∨ 80 < g.flows.length)) (h1 : firstC (fun i => nodeC (NJ g.nodes i)) g.nodes.length = 0) {i : Nat} (hi : i < g.flows.length) (h0 : firstC (flowC g) i = 0) (hb : flowC g i ≠ 0) : gFault g = flowC g i := by
  unfold gFault; rw [if_neg h, if_neg (by simp [h1]), first_bad hi h0 hb]
theorem g_ok {g : GraphD} (h : ¬ (g.nodes.length < 2 ∨ 60 < g.nodes.length ∨ 80 < g.flows.length)) (h1 : firstC (fun i => nodeC (NJ g.nodes i)) g.nodes.length = 0) (h2 : firstC (flowC g) g.flows.length = 0) : gFault g = 0 := by
  unfold gFault; rw [if_neg h, if_neg (by simp [h1]), h2]
theorem g_fine {g : GraphD} (h : gFault g = 0) : ¬ (g.nodes.length < 2 ∨ 60 < g.nodes.length ∨ 80 < g.flows.length) := by
  intro h2; rw [g_many h2] at h; omega
theorem n_form {n : GNodeD} (h : inR n.kind 1 13 = false ∨ bare n = false) : nodeC n = 1 := by unfold nodeC; rw [if_pos h]
theorem n_range {n : GNodeD} (h1 : inR n.kind 1 13 = true) (h2 : bare n = true) (h : inR n.step 0 23 = false ∨ inR n.arg 0 99 = false) : nodeC n = 3 := by unfold nodeC; rw [if_neg (by simp [h1, h2]), if_pos h]
theorem n_many {n : GNodeD} (h1 : inR n.kind 1 13 = true) (h2 : bare n = true) (h3 : inR n.step 0 23 = true) (h4 : inR n.arg 0 99 = true) (h : (16 : Int) < n.expr.length) : nodeC n = 2 := by unfold nodeC; rw [if_neg (by simp [h1, h2]), if_neg (by simp [h3, h4]), if_pos h]
theorem n_name {n : GNodeD} (h1 : inR n.kind 1 13 = true) (h2 : bare n = true) (h3 : inR n.step 0 23 = true) (h4 : inR n.arg 0 99 = true) (h5 : ¬ (16 : Int) < n.expr.length) (h : n.kind = 3) : nodeC n = nf n.name.data.toList := by unfold nodeC; rw [if_neg (by simp [h1, h2]), if_neg (by simp [h3, h4]), if_neg h5, if_pos h]
theorem n_ok {n : GNodeD} (h1 : inR n.kind 1 13 = true) (h2 : bare n = true) (h3 : inR n.step 0 23 = true) (h4 : inR n.arg 0 99 = true) (h5 : ¬ (16 : Int) < n.expr.length) (h : ¬ n.kind = 3) : nodeC n = 0 := by unfold nodeC; rw [if_neg (by simp [h1, h2]), if_neg (by simp [h3, h4]), if_neg h5, if_neg h]
theorem f_range {g : GraphD} {i : Nat} (h : inR (FJ g.flows i).src 0 ((g.nodes.length : Int) - 1) = false ∨ inR (FJ g.flows i).dst 0 ((g.nodes.length : Int) - 1) = false) : flowC g i = 3 := by unfold flowC; rw [if_pos h]
theorem f_many {g : GraphD} {i : Nat} (h1 : inR (FJ g.flows i).src 0 ((g.nodes.length : Int) - 1) = true) (h2 : inR (FJ g.flows i).dst 0 ((g.nodes.length : Int) - 1) = true) (h : (16 : Int) < (FJ g.flows i).cond.length) : flowC g i = 2 := by unfold flowC; rw [if_neg (by simp [h1, h2]), if_pos h]
theorem f_form {g : GraphD} {i : Nat} (h1 : inR (FJ g.flows i).src 0 ((g.nodes.length : Int) - 1) = true) (h2 : inR (FJ g.flows i).dst 0 ((g.nodes.length : Int) - 1) = true) (h3 : ¬ (16 : Int) < (FJ g.flows i).cond.length) (h : 0 < i ∧ (FJ g.flows i).src < (FJ g.flows (i - 1)).src) : flowC g i = 1 := by unfold flowC; rw [if_neg (by simp [h1, h2]), if_neg h3, if_pos h]
theorem f_ok {g : GraphD} {i : Nat} (h1 : inR (FJ g.flows i).src 0 ((g.nodes.length : Int) - 1) = true) (h2 : inR (FJ g.flows i).dst 0 ((g.nodes.length : Int) - 1) = true) (h3 : ¬ (16 : Int) < (FJ g.flows i).cond.length) (h : ¬ (0 < i ∧ (FJ g.flows i).src < (FJ g.flows (i - 1)).src)) : flowC g i = 0 := by unfold flowC; rw [if_neg (by simp [h1, h2]), if_neg h3, if_neg h]
end Gr
end Go.Proofs.YtfgckeoigkoflaaGreatDoor
/- What is wrong with a name, as the specification and as the program tell it. -/
namespace Go.Proofs.YtfgckeoigkoflaaGreatDoor
open Go.RowKit
set_option linter.unusedVariables false
namespace Tr
theorem take_snoc (s : ByteArray) (k : Nat) (h : k < s.size) : s.data.toList.take (k + 1) = s.data.toList.take k ++ [s[k]] := by
  rw [List.take_succ_eq_append_getElem (by simpa using h)]; rfl
theorem az_no (s : ByteArray) (k : Nat) (h : k < s.size) (hn : azByte s[k] = false) : azAll s.data.toList = false := by
  unfold azAll
  rw [List.all_eq_false]
  refine ⟨s[k], ?_, by simp [hn]⟩
  exact List.getElem_mem (l := s.data.toList) (by simpa using h)
theorem az_snoc (s : ByteArray) (k : Nat) (h : k < s.size) (ha : azAll (s.data.toList.take k) = true) (hy : azByte s[k] = true) : azAll (s.data.toList.take (k + 1)) = true := by
  rw [take_snoc s k h]; unfold azAll at *; rw [List.all_append, ha]; simp [hy]
theorem az_end (s : ByteArray) (k : Nat) (h : ¬ k < s.size) (ha : azAll (s.data.toList.take k) = true) : azAll s.data.toList = true := by
  rw [List.take_of_length_le (by simp; omega)] at ha; exact ha
theorem len_size (s : ByteArray) : s.data.toList.length = s.size := by simp
theorem nf_no {s : ByteArray} (h : azAll s.data.toList = false) : nf s.data.toList = 5 := by unfold nf; simp [h]
theorem nf_nil {s : ByteArray} (h : s.size = 0) : nf s.data.toList = 5 := by unfold nf; rw [len_size]; simp [h]
theorem nf_many {s : ByteArray} (h : azAll s.data.toList = true) (h0 : s.size ≠ 0) (h8 : 8 < s.size) : nf s.data.toList = 2 := by unfold nf; rw [len_size]; rw [if_neg (by simp [h]), if_neg h0, if_pos h8]
theorem nf_ok {s : ByteArray} (h : azAll s.data.toList = true) (h0 : s.size ≠ 0) (h8 : ¬ 8 < s.size) : nf s.data.toList = 0 := by unfold nf; rw [len_size, if_neg (by simp [h]), if_neg h0, if_neg h8]
theorem ne_nil {s : ByteArray} (h : s.size ≠ 0) : s.toList.isEmpty = false := by
  rw [ByteArray.toList_eq, List.isEmpty_eq_false_iff]; intro e; apply h; rw [← len_size, e]; rfl
theorem is_nil {s : ByteArray} (h : s.size = 0) : s = { data := #[] } := by
  cases s with | mk d => congr; exact Array.eq_empty_of_size_eq_zero h

set_option maxRecDepth 100000 in
set_option maxHeartbeats 400000 in
theorem spec_nf1 (s : ByteArray) (w : World) (hs : s.size ≤ maxLen) :
    Calls Tryz.prog 60 #[.string s] w fun e w' => e = .returned (.int .i64 (nf s.data.toList)) ∧ w' = w := by
  unfold maxLen at hs
  go_enter Tryz.func60, Tryz.ntmps60
  go_wp2
  go_loop [3] (fun i => ∃ k : Nat, k ≤ s.size ∧ i = .int .i64 k ∧ azAll (s.data.toList.take k) = true) (fun i => s.size - (intOf i).toNat)
  case atStart => exact ⟨0, Nat.zero_le _, rfl, rfl⟩
  case round =>
    obtain ⟨k, hk, rfl, ha⟩ := hrel
    have HA : Hid (azAll (s.data.toList.take k) = true) := ha
    clear ha
    by_cases hlt : k < s.size
    · by_cases h97 : (s[k].toNat : Int) < 97
      · have HS : Hid (nf s.data.toList = 5) := nf_no (az_no s k hlt (by simp [azByte]; omega))
        go_wp2
        go_ret
        exact ⟨by rw [HS.out]; rfl, rfl⟩
      · by_cases h122 : (s[k].toNat : Int) > 122
        · have HS : Hid (nf s.data.toList = 5) := nf_no (az_no s k hlt (by simp [azByte]; omega))
          go_wp2
          go_ret
          exact ⟨by rw [HS.out]; rfl, rfl⟩
        · have HS : Hid (azAll (s.data.toList.take (k + 1)) = true) := az_snoc s k hlt HA.out (by simp [azByte]; omega)
          go_wp2
          exact ⟨⟨k + 1, by omega, by go_num, HS.out⟩, by simp [intOf]; omega⟩
    · have hall := az_end s k hlt HA.out
      by_cases h0 : s.size = 0
      · have HS : Hid (nf s.data.toList = 5) := nf_nil h0
        have hb : s.toList.isEmpty = true := by rw [is_nil h0, ByteArray.toList_eq]; rfl
        clear hall
        go_wp2
        go_ret
        exact ⟨by rw [HS.out]; rfl, rfl⟩
      · have hb := ne_nil h0
        by_cases h8 : 8 < s.size
        · have HS : Hid (nf s.data.toList = 2) := nf_many hall h0 h8
          clear hall
          go_wp2
          go_ret
          exact ⟨by rw [HS.out]; rfl, rfl⟩
        · have HS : Hid (nf s.data.toList = 0) := nf_ok hall h0 h8
          clear hall
          go_wp2
          go_ret
          exact ⟨by rw [HS.out]; rfl, rfl⟩

set_option maxRecDepth 100000 in
set_option maxHeartbeats 400000 in
theorem impl_nf (s : ByteArray) (w : World) (hs : s.size ≤ maxLen) :
    Calls Tryz.prog 93 #[.string s] w fun e w' => e = .returned (.int .i64 (nf s.data.toList)) ∧ w' = w := by
  unfold maxLen at hs
  by_cases h0 : s.size = 0
  · have HS : Hid (nf s.data.toList = 5) := nf_nil h0
    have hb : s.toList.isEmpty = true := by rw [is_nil h0, ByteArray.toList_eq]; rfl
    go_enter Tryz.func93, Tryz.ntmps93
    go_wp2
    go_ret
    exact ⟨by rw [HS.out]; rfl, rfl⟩
  have hb := ne_nil h0
  go_enter Tryz.func93, Tryz.ntmps93
  go_wp2
  go_loop [8] (fun i => ∃ k : Nat, k ≤ s.size ∧ i = .int .i64 k ∧ azAll (s.data.toList.take k) = true) (fun i => s.size - (intOf i).toNat)
  case atStart => exact ⟨0, Nat.zero_le _, rfl, rfl⟩
  case round =>
    obtain ⟨k, hk, rfl, ha⟩ := hrel
    have HA : Hid (azAll (s.data.toList.take k) = true) := ha
    clear ha
    by_cases hlt : k < s.size
    · by_cases h97 : (s[k].toNat : Int) < 97
      · have HS : Hid (nf s.data.toList = 5) := nf_no (az_no s k hlt (by simp [azByte]; omega))
        go_wp2
        go_ret
        exact ⟨by rw [HS.out]; rfl, rfl⟩
      · by_cases h122 : (s[k].toNat : Int) > 122
        · have HS : Hid (nf s.data.toList = 5) := nf_no (az_no s k hlt (by simp [azByte]; omega))
          go_wp2
          go_ret
          exact ⟨by rw [HS.out]; rfl, rfl⟩
        · have HS : Hid (azAll (s.data.toList.take (k + 1)) = true) := az_snoc s k hlt HA.out (by simp [azByte]; omega)
          go_wp2
          exact ⟨⟨k + 1, by omega, by go_num, HS.out⟩, by simp [intOf]; omega⟩
    · have hall := az_end s k hlt HA.out
      by_cases h8 : 8 < s.size
      · have HS : Hid (nf s.data.toList = 2) := nf_many hall h0 h8
        clear hall
        go_wp2
        go_ret
        exact ⟨by rw [HS.out]; rfl, rfl⟩
      · have HS : Hid (nf s.data.toList = 0) := nf_ok hall h0 h8
        clear hall
        go_wp2
        go_ret
        exact ⟨by rw [HS.out]; rfl, rfl⟩
end Tr
end Go.Proofs.YtfgckeoigkoflaaGreatDoor
/- The program's table of rules of nodes. Condition of what reads the table: it lies as its initialiser lays it. -/
namespace Go.Proofs.YtfgckeoigkoflaaGreatDoor
open Go.RowKit
set_option linter.unusedVariables false
namespace Gr
open Ex (hid inR)
open Nd (NodeD)
open Gn (GNodeD)
open Tr (nf)
structure NRuleD where
  word : ByteArray
  hs : Bool
  hn : Bool
  ha : Bool
  he : Bool
def NRuleD.row (r : NRuleD) : Array Value := #[.string r.word, .bool r.hs, .bool r.hn, .bool r.ha, .bool r.he]
def nruleVals : List Value := [.string ⟨#[115, 116, 97, 114, 116]⟩, .bool false, .bool false, .bool false, .bool false, .string ⟨#[101, 110, 100]⟩, .bool false, .bool false, .bool false, .bool false, .string ⟨#[116, 97, 115, 107]⟩, .bool true, .bool true, .bool false, .bool false, .string ⟨#[119, 97, 105, 116]⟩, .bool true, .bool false, .bool true, .bool false, .string ⟨#[116, 105, 109, 101, 114]⟩, .bool true, .bool false, .bool true, .bool false, .string ⟨#[115, 101, 116]⟩, .bool true, .bool false, .bool true, .bool true, .string ⟨#[115, 112, 108, 105, 116]⟩, .bool true, .bool false, .bool false, .bool false, .string ⟨#[106, 111, 105, 110]⟩, .bool true, .bool false, .bool false, .bool false, .string ⟨#[102, 111, 114, 107]⟩, .bool true, .bool false, .bool false, .bool false, .string ⟨#[109, 101, 101, 116]⟩, .bool true, .bool false, .bool false, .bool false, .string ⟨#[111, 112, 101, 110]⟩, .bool true, .bool false, .bool true, .bool false, .string ⟨#[99, 108, 111, 115, 101]⟩, .bool true, .bool false, .bool false, .bool false, .string ⟨#[109, 101, 114, 103, 101]⟩, .bool true, .bool false, .bool false, .bool false]
/-- The table of rules of nodes lies as its initialiser lays it. -/
def NRul (w : World) : Prop := ∀ i : Nat, i < 65 → w.cell? ⟨0, i, none⟩ = nruleVals[i]?
theorem NRul.below {w w' : World} {B : Nat} (he : NRul w) (h : Below B w w') (hB : 0 < B) : NRul w' := fun i hi => (h.cell (p := ⟨0, i, none⟩) hB).trans (he i hi)
theorem NRul.lt {w : World} (h : NRul w) : 0 < w.heap.size := Nd.lt_of_cell (v := .string ⟨#[115, 116, 97, 114, 116]⟩) (h 0 (by decide))
def nruleD (k : Int) : NRuleD := if k = 1 then ⟨⟨#[115, 116, 97, 114, 116]⟩, false, false, false, false⟩ else if k = 2 then ⟨⟨#[101, 110, 100]⟩, false, false, false, false⟩ else if k = 3 then ⟨⟨#[116, 97, 115, 107]⟩, true, true, false, false⟩ else if k = 4 then ⟨⟨#[119, 97, 105, 116]⟩, true, false, true, false⟩ else if k = 5 then ⟨⟨#[116, 105, 109, 101, 114]⟩, true, false, true, false⟩ else if k = 6 then ⟨⟨#[115, 101, 116]⟩, true, false, true, true⟩ else if k = 7 then ⟨⟨#[115, 112, 108, 105, 116]⟩, true, false, false, false⟩ else if k = 8 then ⟨⟨#[106, 111, 105, 110]⟩, true, false, false, false⟩ else if k = 9 then ⟨⟨#[102, 111, 114, 107]⟩, true, false, false, false⟩ else if k = 10 then ⟨⟨#[109, 101, 101, 116]⟩, true, false, false, false⟩ else if k = 11 then ⟨⟨#[111, 112, 101, 110]⟩, true, false, true, false⟩ else if k = 12 then ⟨⟨#[99, 108, 111, 115, 101]⟩, true, false, false, false⟩ else if k = 13 then ⟨⟨#[109, 101, 114, 103, 101]⟩, true, false, false, false⟩ else ⟨⟨#[]⟩, false, false, false, false⟩
theorem nrule1 : nruleD 1 = ⟨⟨#[115, 116, 97, 114, 116]⟩, false, false, false, false⟩ := rfl
theorem nrule2 : nruleD 2 = ⟨⟨#[101, 110, 100]⟩, false, false, false, false⟩ := rfl
theorem nrule3 : nruleD 3 = ⟨⟨#[116, 97, 115, 107]⟩, true, true, false, false⟩ := rfl
theorem nrule4 : nruleD 4 = ⟨⟨#[119, 97, 105, 116]⟩, true, false, true, false⟩ := rfl
theorem nrule5 : nruleD 5 = ⟨⟨#[116, 105, 109, 101, 114]⟩, true, false, true, false⟩ := rfl
theorem nrule6 : nruleD 6 = ⟨⟨#[115, 101, 116]⟩, true, false, true, true⟩ := rfl
theorem nrule7 : nruleD 7 = ⟨⟨#[115, 112, 108, 105, 116]⟩, true, false, false, false⟩ := rfl
theorem nrule8 : nruleD 8 = ⟨⟨#[106, 111, 105, 110]⟩, true, false, false, false⟩ := rfl
theorem nrule9 : nruleD 9 = ⟨⟨#[102, 111, 114, 107]⟩, true, false, false, false⟩ := rfl
theorem nrule10 : nruleD 10 = ⟨⟨#[109, 101, 101, 116]⟩, true, false, false, false⟩ := rfl
theorem nrule11 : nruleD 11 = ⟨⟨#[111, 112, 101, 110]⟩, true, false, true, false⟩ := rfl
theorem nrule12 : nruleD 12 = ⟨⟨#[99, 108, 111, 115, 101]⟩, true, false, false, false⟩ := rfl
theorem nrule13 : nruleD 13 = ⟨⟨#[109, 101, 114, 103, 101]⟩, true, false, false, false⟩ := rfl
theorem nkinds {k : Int} (h : inR k 1 13 = true) : k = 1 ∨ k = 2 ∨ k = 3 ∨ k = 4 ∨ k = 5 ∨ k = 6 ∨ k = 7 ∨ k = 8 ∨ k = 9 ∨ k = 10 ∨ k = 11 ∨ k = 12 ∨ k = 13 := by
  have := Ex.inR_iff.1 h
  omega
def allowsN (r : NRuleD) (n : GNodeD) : Bool := (r.hs || (n.step == 0)) && (r.hn || n.name.toList.isEmpty) && (r.ha || (n.arg == 0)) && (r.he || ((n.expr.length : Int) == 0))
theorem allowsN_eq {n : GNodeD} (h : inR n.kind 1 13 = true) : allowsN (nruleD n.kind) n = bare n := by
  unfold allowsN bare argK endK
  rcases nkinds h with e | e | e | e | e | e | e | e | e | e | e | e | e <;> rw [e] <;> simp [nrule1, nrule2, nrule3, nrule4, nrule5, nrule6, nrule7, nrule8, nrule9, nrule10, nrule11, nrule12, nrule13, inR] <;> (try (cases (n.step == 0) <;> cases n.name.toList.isEmpty <;> cases (n.arg == 0) <;> cases ((n.expr.length : Int) == 0) <;> rfl))
theorem hn_iff {k : Int} (h : inR k 1 13 = true) : (nruleD k).hn = decide (k = 3) := by
  rcases nkinds h with e | e | e | e | e | e | e | e | e | e | e | e | e <;> subst e <;> rfl
set_option maxRecDepth 100000 in
set_option maxHeartbeats 4000000 in
theorem nruleBad (k : Int) (w : World) (hb : inR k 1 13 = false) :
    Calls Tryz.prog 40 #[.int .i64 k] w fun e w' => e = .returned (.tuple #[.agg #[.string ⟨#[]⟩, .bool false, .bool false, .bool false, .bool false], .bool false]) ∧ Below w.heap.size w w' := by
  have hb' := Ex.inR_not.1 hb
  by_cases h1 : k < 1
  · go_enter Tryz.func40, Tryz.ntmps40
    go_wp2
    exact bodyPost_ret (v := .tuple #[.agg #[.string ⟨#[]⟩, .bool false, .bool false, .bool false, .bool false], .bool false]) (by simp [results, Tryz.results40, go_sem]) rfl ⟨rfl, (Below.refl _ w).alloc (Nat.le_refl _) _⟩
  · have h8 : 13 < k := by omega
    go_enter Tryz.func40, Tryz.ntmps40
    go_wp2
    exact bodyPost_ret (v := .tuple #[.agg #[.string ⟨#[]⟩, .bool false, .bool false, .bool false, .bool false], .bool false]) (by simp [results, Tryz.results40, go_sem]) rfl ⟨rfl, (Below.refl _ w).alloc (Nat.le_refl _) _⟩
set_option maxRecDepth 100000 in
set_option maxHeartbeats 4000000 in
theorem nruleOk (k : Int) (w : World) (hin : inR k 1 13 = true) (hr : NRul w) :
    Calls Tryz.prog 40 #[.int .i64 k] w fun e w' => e = .returned (.tuple #[.agg (nruleD k).row, .bool true]) ∧ Below w.heap.size w w' := by
  have HR := hid hr
  have hlt := hr.lt
  clear hr
  rcases nkinds hin with rfl | rfl | rfl | rfl | rfl | rfl | rfl | rfl | rfl | rfl | rfl | rfl | rfl
  · clear hin
    have c0 : w.cell? ⟨0, 0, none⟩ = some (.string ⟨#[115, 116, 97, 114, 116]⟩) := HR.out 0 (by decide)
    have c1 : w.cell? ⟨0, 1, none⟩ = some (.bool false) := HR.out 1 (by decide)
    have c2 : w.cell? ⟨0, 2, none⟩ = some (.bool false) := HR.out 2 (by decide)
    have c3 : w.cell? ⟨0, 3, none⟩ = some (.bool false) := HR.out 3 (by decide)
    have c4 : w.cell? ⟨0, 4, none⟩ = some (.bool false) := HR.out 4 (by decide)
    go_enter Tryz.func40, Tryz.ntmps40
    go_wp2
    refine bodyPost_ret (v := .tuple #[.agg #[.string ⟨#[115, 116, 97, 114, 116]⟩, .bool false, .bool false, .bool false, .bool false], .bool true]) (by simp [results, Tryz.results40, go_sem]) rfl ⟨rfl, ?_⟩
    exact (Below.refl _ w).alloc (Nat.le_refl _) _
  · clear hin
    have c0 : w.cell? ⟨0, 5, none⟩ = some (.string ⟨#[101, 110, 100]⟩) := HR.out 5 (by decide)
    have c1 : w.cell? ⟨0, 6, none⟩ = some (.bool false) := HR.out 6 (by decide)
    have c2 : w.cell? ⟨0, 7, none⟩ = some (.bool false) := HR.out 7 (by decide)
    have c3 : w.cell? ⟨0, 8, none⟩ = some (.bool false) := HR.out 8 (by decide)
    have c4 : w.cell? ⟨0, 9, none⟩ = some (.bool false) := HR.out 9 (by decide)
    go_enter Tryz.func40, Tryz.ntmps40
    go_wp2
    refine bodyPost_ret (v := .tuple #[.agg #[.string ⟨#[101, 110, 100]⟩, .bool false, .bool false, .bool false, .bool false], .bool true]) (by simp [results, Tryz.results40, go_sem]) rfl ⟨rfl, ?_⟩
    exact (Below.refl _ w).alloc (Nat.le_refl _) _
  · clear hin
    have c0 : w.cell? ⟨0, 10, none⟩ = some (.string ⟨#[116, 97, 115, 107]⟩) := HR.out 10 (by decide)
    have c1 : w.cell? ⟨0, 11, none⟩ = some (.bool true) := HR.out 11 (by decide)
    have c2 : w.cell? ⟨0, 12, none⟩ = some (.bool true) := HR.out 12 (by decide)
    have c3 : w.cell? ⟨0, 13, none⟩ = some (.bool false) := HR.out 13 (by decide)
    have c4 : w.cell? ⟨0, 14, none⟩ = some (.bool false) := HR.out 14 (by decide)
    go_enter Tryz.func40, Tryz.ntmps40
    go_wp2
    refine bodyPost_ret (v := .tuple #[.agg #[.string ⟨#[116, 97, 115, 107]⟩, .bool true, .bool true, .bool false, .bool false], .bool true]) (by simp [results, Tryz.results40, go_sem]) rfl ⟨rfl, ?_⟩
    exact (Below.refl _ w).alloc (Nat.le_refl _) _
  · clear hin
    have c0 : w.cell? ⟨0, 15, none⟩ = some (.string ⟨#[119, 97, 105, 116]⟩) := HR.out 15 (by decide)
    have c1 : w.cell? ⟨0, 16, none⟩ = some (.bool true) := HR.out 16 (by decide)
    have c2 : w.cell? ⟨0, 17, none⟩ = some (.bool false) := HR.out 17 (by decide)
    have c3 : w.cell? ⟨0, 18, none⟩ = some (.bool true) := HR.out 18 (by decide)
    have c4 : w.cell? ⟨0, 19, none⟩ = some (.bool false) := HR.out 19 (by decide)
    go_enter Tryz.func40, Tryz.ntmps40
    go_wp2
    refine bodyPost_ret (v := .tuple #[.agg #[.string ⟨#[119, 97, 105, 116]⟩, .bool true, .bool false, .bool true, .bool false], .bool true]) (by simp [results, Tryz.results40, go_sem]) rfl ⟨rfl, ?_⟩
    exact (Below.refl _ w).alloc (Nat.le_refl _) _
  · clear hin
    have c0 : w.cell? ⟨0, 20, none⟩ = some (.string ⟨#[116, 105, 109, 101, 114]⟩) := HR.out 20 (by decide)
    have c1 : w.cell? ⟨0, 21, none⟩ = some (.bool true) := HR.out 21 (by decide)
    have c2 : w.cell? ⟨0, 22, none⟩ = some (.bool false) := HR.out 22 (by decide)
    have c3 : w.cell? ⟨0, 23, none⟩ = some (.bool true) := HR.out 23 (by decide)
    have c4 : w.cell? ⟨0, 24, none⟩ = some (.bool false) := HR.out 24 (by decide)
    go_enter Tryz.func40, Tryz.ntmps40
    go_wp2
    refine bodyPost_ret (v := .tuple #[.agg #[.string ⟨#[116, 105, 109, 101, 114]⟩, .bool true, .bool false, .bool true, .bool false], .bool true]) (by simp [results, Tryz.results40, go_sem]) rfl ⟨rfl, ?_⟩
    exact (Below.refl _ w).alloc (Nat.le_refl _) _
  · clear hin
    have c0 : w.cell? ⟨0, 25, none⟩ = some (.string ⟨#[115, 101, 116]⟩) := HR.out 25 (by decide)
    have c1 : w.cell? ⟨0, 26, none⟩ = some (.bool true) := HR.out 26 (by decide)
    have c2 : w.cell? ⟨0, 27, none⟩ = some (.bool false) := HR.out 27 (by decide)
    have c3 : w.cell? ⟨0, 28, none⟩ = some (.bool true) := HR.out 28 (by decide)
    have c4 : w.cell? ⟨0, 29, none⟩ = some (.bool true) := HR.out 29 (by decide)
    go_enter Tryz.func40, Tryz.ntmps40
    go_wp2
    refine bodyPost_ret (v := .tuple #[.agg #[.string ⟨#[115, 101, 116]⟩, .bool true, .bool false, .bool true, .bool true], .bool true]) (by simp [results, Tryz.results40, go_sem]) rfl ⟨rfl, ?_⟩
    exact (Below.refl _ w).alloc (Nat.le_refl _) _
  · clear hin
    have c0 : w.cell? ⟨0, 30, none⟩ = some (.string ⟨#[115, 112, 108, 105, 116]⟩) := HR.out 30 (by decide)
    have c1 : w.cell? ⟨0, 31, none⟩ = some (.bool true) := HR.out 31 (by decide)
    have c2 : w.cell? ⟨0, 32, none⟩ = some (.bool false) := HR.out 32 (by decide)
    have c3 : w.cell? ⟨0, 33, none⟩ = some (.bool false) := HR.out 33 (by decide)
    have c4 : w.cell? ⟨0, 34, none⟩ = some (.bool false) := HR.out 34 (by decide)
    go_enter Tryz.func40, Tryz.ntmps40
    go_wp2
    refine bodyPost_ret (v := .tuple #[.agg #[.string ⟨#[115, 112, 108, 105, 116]⟩, .bool true, .bool false, .bool false, .bool false], .bool true]) (by simp [results, Tryz.results40, go_sem]) rfl ⟨rfl, ?_⟩
    exact (Below.refl _ w).alloc (Nat.le_refl _) _
  · clear hin
    have c0 : w.cell? ⟨0, 35, none⟩ = some (.string ⟨#[106, 111, 105, 110]⟩) := HR.out 35 (by decide)
    have c1 : w.cell? ⟨0, 36, none⟩ = some (.bool true) := HR.out 36 (by decide)
    have c2 : w.cell? ⟨0, 37, none⟩ = some (.bool false) := HR.out 37 (by decide)
    have c3 : w.cell? ⟨0, 38, none⟩ = some (.bool false) := HR.out 38 (by decide)
    have c4 : w.cell? ⟨0, 39, none⟩ = some (.bool false) := HR.out 39 (by decide)
    go_enter Tryz.func40, Tryz.ntmps40
    go_wp2
    refine bodyPost_ret (v := .tuple #[.agg #[.string ⟨#[106, 111, 105, 110]⟩, .bool true, .bool false, .bool false, .bool false], .bool true]) (by simp [results, Tryz.results40, go_sem]) rfl ⟨rfl, ?_⟩
    exact (Below.refl _ w).alloc (Nat.le_refl _) _
  · clear hin
    have c0 : w.cell? ⟨0, 40, none⟩ = some (.string ⟨#[102, 111, 114, 107]⟩) := HR.out 40 (by decide)
    have c1 : w.cell? ⟨0, 41, none⟩ = some (.bool true) := HR.out 41 (by decide)
    have c2 : w.cell? ⟨0, 42, none⟩ = some (.bool false) := HR.out 42 (by decide)
    have c3 : w.cell? ⟨0, 43, none⟩ = some (.bool false) := HR.out 43 (by decide)
    have c4 : w.cell? ⟨0, 44, none⟩ = some (.bool false) := HR.out 44 (by decide)
    go_enter Tryz.func40, Tryz.ntmps40
    go_wp2
    refine bodyPost_ret (v := .tuple #[.agg #[.string ⟨#[102, 111, 114, 107]⟩, .bool true, .bool false, .bool false, .bool false], .bool true]) (by simp [results, Tryz.results40, go_sem]) rfl ⟨rfl, ?_⟩
    exact (Below.refl _ w).alloc (Nat.le_refl _) _
  · clear hin
    have c0 : w.cell? ⟨0, 45, none⟩ = some (.string ⟨#[109, 101, 101, 116]⟩) := HR.out 45 (by decide)
    have c1 : w.cell? ⟨0, 46, none⟩ = some (.bool true) := HR.out 46 (by decide)
    have c2 : w.cell? ⟨0, 47, none⟩ = some (.bool false) := HR.out 47 (by decide)
    have c3 : w.cell? ⟨0, 48, none⟩ = some (.bool false) := HR.out 48 (by decide)
    have c4 : w.cell? ⟨0, 49, none⟩ = some (.bool false) := HR.out 49 (by decide)
    go_enter Tryz.func40, Tryz.ntmps40
    go_wp2
    refine bodyPost_ret (v := .tuple #[.agg #[.string ⟨#[109, 101, 101, 116]⟩, .bool true, .bool false, .bool false, .bool false], .bool true]) (by simp [results, Tryz.results40, go_sem]) rfl ⟨rfl, ?_⟩
    exact (Below.refl _ w).alloc (Nat.le_refl _) _
  · clear hin
    have c0 : w.cell? ⟨0, 50, none⟩ = some (.string ⟨#[111, 112, 101, 110]⟩) := HR.out 50 (by decide)
    have c1 : w.cell? ⟨0, 51, none⟩ = some (.bool true) := HR.out 51 (by decide)
    have c2 : w.cell? ⟨0, 52, none⟩ = some (.bool false) := HR.out 52 (by decide)
    have c3 : w.cell? ⟨0, 53, none⟩ = some (.bool true) := HR.out 53 (by decide)
    have c4 : w.cell? ⟨0, 54, none⟩ = some (.bool false) := HR.out 54 (by decide)
    go_enter Tryz.func40, Tryz.ntmps40
    go_wp2
    refine bodyPost_ret (v := .tuple #[.agg #[.string ⟨#[111, 112, 101, 110]⟩, .bool true, .bool false, .bool true, .bool false], .bool true]) (by simp [results, Tryz.results40, go_sem]) rfl ⟨rfl, ?_⟩
    exact (Below.refl _ w).alloc (Nat.le_refl _) _
  · clear hin
    have c0 : w.cell? ⟨0, 55, none⟩ = some (.string ⟨#[99, 108, 111, 115, 101]⟩) := HR.out 55 (by decide)
    have c1 : w.cell? ⟨0, 56, none⟩ = some (.bool true) := HR.out 56 (by decide)
    have c2 : w.cell? ⟨0, 57, none⟩ = some (.bool false) := HR.out 57 (by decide)
    have c3 : w.cell? ⟨0, 58, none⟩ = some (.bool false) := HR.out 58 (by decide)
    have c4 : w.cell? ⟨0, 59, none⟩ = some (.bool false) := HR.out 59 (by decide)
    go_enter Tryz.func40, Tryz.ntmps40
    go_wp2
    refine bodyPost_ret (v := .tuple #[.agg #[.string ⟨#[99, 108, 111, 115, 101]⟩, .bool true, .bool false, .bool false, .bool false], .bool true]) (by simp [results, Tryz.results40, go_sem]) rfl ⟨rfl, ?_⟩
    exact (Below.refl _ w).alloc (Nat.le_refl _) _
  · clear hin
    have c0 : w.cell? ⟨0, 60, none⟩ = some (.string ⟨#[109, 101, 114, 103, 101]⟩) := HR.out 60 (by decide)
    have c1 : w.cell? ⟨0, 61, none⟩ = some (.bool true) := HR.out 61 (by decide)
    have c2 : w.cell? ⟨0, 62, none⟩ = some (.bool false) := HR.out 62 (by decide)
    have c3 : w.cell? ⟨0, 63, none⟩ = some (.bool false) := HR.out 63 (by decide)
    have c4 : w.cell? ⟨0, 64, none⟩ = some (.bool false) := HR.out 64 (by decide)
    go_enter Tryz.func40, Tryz.ntmps40
    go_wp2
    refine bodyPost_ret (v := .tuple #[.agg #[.string ⟨#[109, 101, 114, 103, 101]⟩, .bool true, .bool false, .bool false, .bool false], .bool true]) (by simp [results, Tryz.results40, go_sem]) rfl ⟨rfl, ?_⟩
    exact (Below.refl _ w).alloc (Nat.le_refl _) _
end Gr
end Go.Proofs.YtfgckeoigkoflaaGreatDoor
