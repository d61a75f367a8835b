/- Laid together: PiA, PiB. -/
import Derived.Test.YtgghigfflpbjiaaGreatDoorGF
import Derived.Test.YtgghigfflpbjiaaGreatDoorGC
import Derived.Test.YtgghigfflpbjiaaGreatDoorGM
import Derived.Deep.QuietTactic
import Derived.BigQuiet
/- The program's table of rules, and what is asked of a step by it. Condition of what reads the table: it lies as its initialiser lays it. -/
namespace Go.Proofs.YtgghigfflpbjiaaGreatDoor
open Go.RowKit
set_option linter.unusedVariables false
namespace Pf
open Ex (hid inR eFault typeCode typeVal)
open Nd (NodeD)
open St (StepD)
open Tr (nf)
structure RuleD where
  word : ByteArray
  hn : Bool
  he : Bool
  la : Int
  ma : Int
  lk : Int
  mx : Int
def RuleD.row (r : RuleD) : Array Value := #[.string r.word, .bool r.hn, .bool r.he, .int .i64 r.la, .int .i64 r.ma, .int .i64 r.lk, .int .i64 r.mx]
def ruleVals : List Value := [.string ⟨#[115, 101, 113]⟩, .bool false, .bool false, .int .i64 0, .int .i64 0, .int .i64 1, .int .i64 24, .string ⟨#[116, 97, 115, 107]⟩, .bool true, .bool false, .int .i64 0, .int .i64 0, .int .i64 0, .int .i64 0, .string ⟨#[120, 111, 114]⟩, .bool false, .bool false, .int .i64 0, .int .i64 0, .int .i64 2, .int .i64 24, .string ⟨#[97, 110, 100]⟩, .bool false, .bool false, .int .i64 0, .int .i64 0, .int .i64 2, .int .i64 24, .string ⟨#[119, 97, 105, 116]⟩, .bool false, .bool false, .int .i64 0, .int .i64 9, .int .i64 0, .int .i64 0, .string ⟨#[116, 105, 109, 101, 114]⟩, .bool false, .bool false, .int .i64 1, .int .i64 99, .int .i64 0, .int .i64 0, .string ⟨#[115, 101, 116]⟩, .bool false, .bool true, .int .i64 0, .int .i64 3, .int .i64 0, .int .i64 0, .string ⟨#[103, 117, 97, 114, 100]⟩, .bool false, .bool false, .int .i64 1, .int .i64 99, .int .i64 2, .int .i64 2]
/-- The table of rules lies as its initialiser lays it. -/
def Rul (w : World) : Prop := ∀ i : Nat, i < 56 → w.cell? ⟨0, i, none⟩ = ruleVals[i]?
theorem Rul.below {w w' : World} {B : Nat} (he : Rul w) (h : Below B w w') (hB : 0 < B) : Rul w' := fun i hi => (h.cell (p := ⟨0, i, none⟩) hB).trans (he i hi)
theorem Rul.lt {w : World} (h : Rul w) : 0 < w.heap.size := Nd.lt_of_cell (v := .string ⟨#[115, 101, 113]⟩) (h 0 (by decide))
def ruleD (k : Int) : RuleD := if k = 1 then ⟨⟨#[115, 101, 113]⟩, false, false, 0, 0, 1, 24⟩ else if k = 2 then ⟨⟨#[116, 97, 115, 107]⟩, true, false, 0, 0, 0, 0⟩ else if k = 3 then ⟨⟨#[120, 111, 114]⟩, false, false, 0, 0, 2, 24⟩ else if k = 4 then ⟨⟨#[97, 110, 100]⟩, false, false, 0, 0, 2, 24⟩ else if k = 5 then ⟨⟨#[119, 97, 105, 116]⟩, false, false, 0, 9, 0, 0⟩ else if k = 6 then ⟨⟨#[116, 105, 109, 101, 114]⟩, false, false, 1, 99, 0, 0⟩ else if k = 7 then ⟨⟨#[115, 101, 116]⟩, false, true, 0, 3, 0, 0⟩ else if k = 8 then ⟨⟨#[103, 117, 97, 114, 100]⟩, false, false, 1, 99, 2, 2⟩ else ⟨⟨#[]⟩, false, false, 0, 0, 0, 0⟩
theorem rule1 : ruleD 1 = ⟨⟨#[115, 101, 113]⟩, false, false, 0, 0, 1, 24⟩ := rfl
theorem rule2 : ruleD 2 = ⟨⟨#[116, 97, 115, 107]⟩, true, false, 0, 0, 0, 0⟩ := rfl
theorem rule3 : ruleD 3 = ⟨⟨#[120, 111, 114]⟩, false, false, 0, 0, 2, 24⟩ := rfl
theorem rule4 : ruleD 4 = ⟨⟨#[97, 110, 100]⟩, false, false, 0, 0, 2, 24⟩ := rfl
theorem rule5 : ruleD 5 = ⟨⟨#[119, 97, 105, 116]⟩, false, false, 0, 9, 0, 0⟩ := rfl
theorem rule6 : ruleD 6 = ⟨⟨#[116, 105, 109, 101, 114]⟩, false, false, 1, 99, 0, 0⟩ := rfl
theorem rule7 : ruleD 7 = ⟨⟨#[115, 101, 116]⟩, false, true, 0, 3, 0, 0⟩ := rfl
theorem rule8 : ruleD 8 = ⟨⟨#[103, 117, 97, 114, 100]⟩, false, false, 1, 99, 2, 2⟩ := rfl
theorem setB {B : Nat} {W w : World} (h : Below B W w) {b o : Nat} (hb : B ≤ b) (x : Value) : Below B W (w.setCell ⟨b, o, none⟩ x) := h.setCell hb x
theorem kinds {k : Int} (h : inR k 1 8 = true) : k = 1 ∨ k = 2 ∨ k = 3 ∨ k = 4 ∨ k = 5 ∨ k = 6 ∨ k = 7 ∨ k = 8 := by
  have := Ex.inR_iff.1 h
  omega
set_option maxRecDepth 100000 in
set_option maxHeartbeats 4000000 in
theorem ruleBad (k : Int) (w : World) (hb : inR k 1 8 = false) (hr : Rul w) :
    Calls Tryz.prog 47 #[.int .i64 k] w fun e w' => e = .returned (.tuple #[.agg #[.string ⟨#[]⟩, .bool false, .bool false, .int .i64 0, .int .i64 0, .int .i64 0, .int .i64 0], .bool false]) ∧ Below w.heap.size w w' := by
  have hb' := Ex.inR_not.1 hb
  clear hr
  by_cases h1 : k < 1
  · go_enter Tryz.func47, Tryz.ntmps47
    go_wp2
    exact bodyPost_ret (v := .tuple #[.agg #[.string ⟨#[]⟩, .bool false, .bool false, .int .i64 0, .int .i64 0, .int .i64 0, .int .i64 0], .bool false]) (by simp [results, Tryz.results47, go_sem]) rfl ⟨rfl, (Below.refl _ w).alloc (Nat.le_refl _) _⟩
  · have h8 : 8 < k := by omega
    go_enter Tryz.func47, Tryz.ntmps47
    go_wp2
    exact bodyPost_ret (v := .tuple #[.agg #[.string ⟨#[]⟩, .bool false, .bool false, .int .i64 0, .int .i64 0, .int .i64 0, .int .i64 0], .bool false]) (by simp [results, Tryz.results47, go_sem]) rfl ⟨rfl, (Below.refl _ w).alloc (Nat.le_refl _) _⟩
set_option maxRecDepth 100000 in
set_option maxHeartbeats 4000000 in
theorem ruleOk (k : Int) (w : World) (hin : inR k 1 8 = true) (hr : Rul w) :
    Calls Tryz.prog 47 #[.int .i64 k] w fun e w' => e = .returned (.tuple #[.agg (ruleD k).row, .bool true]) ∧ Below w.heap.size w w' := by
  have HR := hid hr
  have hlt := hr.lt
  clear hr
  rcases kinds hin with rfl | rfl | rfl | rfl | rfl | rfl | rfl | rfl
  · clear hin
    have c0 : w.cell? ⟨0, 0, none⟩ = some (.string ⟨#[115, 101, 113]⟩) := HR.out 0 (by decide)
    have c1 : w.cell? ⟨0, 1, none⟩ = some (.bool false) := HR.out 1 (by decide)
    have c2 : w.cell? ⟨0, 2, none⟩ = some (.bool false) := HR.out 2 (by decide)
    have c3 : w.cell? ⟨0, 3, none⟩ = some (.int .i64 0) := HR.out 3 (by decide)
    have c4 : w.cell? ⟨0, 4, none⟩ = some (.int .i64 0) := HR.out 4 (by decide)
    have c5 : w.cell? ⟨0, 5, none⟩ = some (.int .i64 1) := HR.out 5 (by decide)
    have c6 : w.cell? ⟨0, 6, none⟩ = some (.int .i64 24) := HR.out 6 (by decide)
    go_enter Tryz.func47, Tryz.ntmps47
    go_wp2
    refine bodyPost_ret (v := .tuple #[.agg #[.string ⟨#[115, 101, 113]⟩, .bool false, .bool false, .int .i64 0, .int .i64 0, .int .i64 1, .int .i64 24], .bool true]) (by simp [results, Tryz.results47, go_sem]) rfl ⟨rfl, ?_⟩
    exact (Below.refl _ w).alloc (Nat.le_refl _) _
  · clear hin
    have c0 : w.cell? ⟨0, 7, none⟩ = some (.string ⟨#[116, 97, 115, 107]⟩) := HR.out 7 (by decide)
    have c1 : w.cell? ⟨0, 8, none⟩ = some (.bool true) := HR.out 8 (by decide)
    have c2 : w.cell? ⟨0, 9, none⟩ = some (.bool false) := HR.out 9 (by decide)
    have c3 : w.cell? ⟨0, 10, none⟩ = some (.int .i64 0) := HR.out 10 (by decide)
    have c4 : w.cell? ⟨0, 11, none⟩ = some (.int .i64 0) := HR.out 11 (by decide)
    have c5 : w.cell? ⟨0, 12, none⟩ = some (.int .i64 0) := HR.out 12 (by decide)
    have c6 : w.cell? ⟨0, 13, none⟩ = some (.int .i64 0) := HR.out 13 (by decide)
    go_enter Tryz.func47, Tryz.ntmps47
    go_wp2
    refine bodyPost_ret (v := .tuple #[.agg #[.string ⟨#[116, 97, 115, 107]⟩, .bool true, .bool false, .int .i64 0, .int .i64 0, .int .i64 0, .int .i64 0], .bool true]) (by simp [results, Tryz.results47, go_sem]) rfl ⟨rfl, ?_⟩
    exact (Below.refl _ w).alloc (Nat.le_refl _) _
  · clear hin
    have c0 : w.cell? ⟨0, 14, none⟩ = some (.string ⟨#[120, 111, 114]⟩) := HR.out 14 (by decide)
    have c1 : w.cell? ⟨0, 15, none⟩ = some (.bool false) := HR.out 15 (by decide)
    have c2 : w.cell? ⟨0, 16, none⟩ = some (.bool false) := HR.out 16 (by decide)
    have c3 : w.cell? ⟨0, 17, none⟩ = some (.int .i64 0) := HR.out 17 (by decide)
    have c4 : w.cell? ⟨0, 18, none⟩ = some (.int .i64 0) := HR.out 18 (by decide)
    have c5 : w.cell? ⟨0, 19, none⟩ = some (.int .i64 2) := HR.out 19 (by decide)
    have c6 : w.cell? ⟨0, 20, none⟩ = some (.int .i64 24) := HR.out 20 (by decide)
    go_enter Tryz.func47, Tryz.ntmps47
    go_wp2
    refine bodyPost_ret (v := .tuple #[.agg #[.string ⟨#[120, 111, 114]⟩, .bool false, .bool false, .int .i64 0, .int .i64 0, .int .i64 2, .int .i64 24], .bool true]) (by simp [results, Tryz.results47, go_sem]) rfl ⟨rfl, ?_⟩
    exact (Below.refl _ w).alloc (Nat.le_refl _) _
  · clear hin
    have c0 : w.cell? ⟨0, 21, none⟩ = some (.string ⟨#[97, 110, 100]⟩) := HR.out 21 (by decide)
    have c1 : w.cell? ⟨0, 22, none⟩ = some (.bool false) := HR.out 22 (by decide)
    have c2 : w.cell? ⟨0, 23, none⟩ = some (.bool false) := HR.out 23 (by decide)
    have c3 : w.cell? ⟨0, 24, none⟩ = some (.int .i64 0) := HR.out 24 (by decide)
    have c4 : w.cell? ⟨0, 25, none⟩ = some (.int .i64 0) := HR.out 25 (by decide)
    have c5 : w.cell? ⟨0, 26, none⟩ = some (.int .i64 2) := HR.out 26 (by decide)
    have c6 : w.cell? ⟨0, 27, none⟩ = some (.int .i64 24) := HR.out 27 (by decide)
    go_enter Tryz.func47, Tryz.ntmps47
    go_wp2
    refine bodyPost_ret (v := .tuple #[.agg #[.string ⟨#[97, 110, 100]⟩, .bool false, .bool false, .int .i64 0, .int .i64 0, .int .i64 2, .int .i64 24], .bool true]) (by simp [results, Tryz.results47, go_sem]) rfl ⟨rfl, ?_⟩
    exact (Below.refl _ w).alloc (Nat.le_refl _) _
  · clear hin
    have c0 : w.cell? ⟨0, 28, none⟩ = some (.string ⟨#[119, 97, 105, 116]⟩) := HR.out 28 (by decide)
    have c1 : w.cell? ⟨0, 29, none⟩ = some (.bool false) := HR.out 29 (by decide)
    have c2 : w.cell? ⟨0, 30, none⟩ = some (.bool false) := HR.out 30 (by decide)
    have c3 : w.cell? ⟨0, 31, none⟩ = some (.int .i64 0) := HR.out 31 (by decide)
    have c4 : w.cell? ⟨0, 32, none⟩ = some (.int .i64 9) := HR.out 32 (by decide)
    have c5 : w.cell? ⟨0, 33, none⟩ = some (.int .i64 0) := HR.out 33 (by decide)
    have c6 : w.cell? ⟨0, 34, none⟩ = some (.int .i64 0) := HR.out 34 (by decide)
    go_enter Tryz.func47, Tryz.ntmps47
    go_wp2
    refine bodyPost_ret (v := .tuple #[.agg #[.string ⟨#[119, 97, 105, 116]⟩, .bool false, .bool false, .int .i64 0, .int .i64 9, .int .i64 0, .int .i64 0], .bool true]) (by simp [results, Tryz.results47, go_sem]) rfl ⟨rfl, ?_⟩
    exact (Below.refl _ w).alloc (Nat.le_refl _) _
  · clear hin
    have c0 : w.cell? ⟨0, 35, none⟩ = some (.string ⟨#[116, 105, 109, 101, 114]⟩) := HR.out 35 (by decide)
    have c1 : w.cell? ⟨0, 36, none⟩ = some (.bool false) := HR.out 36 (by decide)
    have c2 : w.cell? ⟨0, 37, none⟩ = some (.bool false) := HR.out 37 (by decide)
    have c3 : w.cell? ⟨0, 38, none⟩ = some (.int .i64 1) := HR.out 38 (by decide)
    have c4 : w.cell? ⟨0, 39, none⟩ = some (.int .i64 99) := HR.out 39 (by decide)
    have c5 : w.cell? ⟨0, 40, none⟩ = some (.int .i64 0) := HR.out 40 (by decide)
    have c6 : w.cell? ⟨0, 41, none⟩ = some (.int .i64 0) := HR.out 41 (by decide)
    go_enter Tryz.func47, Tryz.ntmps47
    go_wp2
    refine bodyPost_ret (v := .tuple #[.agg #[.string ⟨#[116, 105, 109, 101, 114]⟩, .bool false, .bool false, .int .i64 1, .int .i64 99, .int .i64 0, .int .i64 0], .bool true]) (by simp [results, Tryz.results47, go_sem]) rfl ⟨rfl, ?_⟩
    exact (Below.refl _ w).alloc (Nat.le_refl _) _
  · clear hin
    have c0 : w.cell? ⟨0, 42, none⟩ = some (.string ⟨#[115, 101, 116]⟩) := HR.out 42 (by decide)
    have c1 : w.cell? ⟨0, 43, none⟩ = some (.bool false) := HR.out 43 (by decide)
    have c2 : w.cell? ⟨0, 44, none⟩ = some (.bool true) := HR.out 44 (by decide)
    have c3 : w.cell? ⟨0, 45, none⟩ = some (.int .i64 0) := HR.out 45 (by decide)
    have c4 : w.cell? ⟨0, 46, none⟩ = some (.int .i64 3) := HR.out 46 (by decide)
    have c5 : w.cell? ⟨0, 47, none⟩ = some (.int .i64 0) := HR.out 47 (by decide)
    have c6 : w.cell? ⟨0, 48, none⟩ = some (.int .i64 0) := HR.out 48 (by decide)
    go_enter Tryz.func47, Tryz.ntmps47
    go_wp2
    refine bodyPost_ret (v := .tuple #[.agg #[.string ⟨#[115, 101, 116]⟩, .bool false, .bool true, .int .i64 0, .int .i64 3, .int .i64 0, .int .i64 0], .bool true]) (by simp [results, Tryz.results47, go_sem]) rfl ⟨rfl, ?_⟩
    exact (Below.refl _ w).alloc (Nat.le_refl _) _
  · clear hin
    have c0 : w.cell? ⟨0, 49, none⟩ = some (.string ⟨#[103, 117, 97, 114, 100]⟩) := HR.out 49 (by decide)
    have c1 : w.cell? ⟨0, 50, none⟩ = some (.bool false) := HR.out 50 (by decide)
    have c2 : w.cell? ⟨0, 51, none⟩ = some (.bool false) := HR.out 51 (by decide)
    have c3 : w.cell? ⟨0, 52, none⟩ = some (.int .i64 1) := HR.out 52 (by decide)
    have c4 : w.cell? ⟨0, 53, none⟩ = some (.int .i64 99) := HR.out 53 (by decide)
    have c5 : w.cell? ⟨0, 54, none⟩ = some (.int .i64 2) := HR.out 54 (by decide)
    have c6 : w.cell? ⟨0, 55, none⟩ = some (.int .i64 2) := HR.out 55 (by decide)
    go_enter Tryz.func47, Tryz.ntmps47
    go_wp2
    refine bodyPost_ret (v := .tuple #[.agg #[.string ⟨#[103, 117, 97, 114, 100]⟩, .bool false, .bool false, .int .i64 1, .int .i64 99, .int .i64 2, .int .i64 2], .bool true]) (by simp [results, Tryz.results47, go_sem]) rfl ⟨rfl, ?_⟩
    exact (Below.refl _ w).alloc (Nat.le_refl _) _
end Pf
end Go.Proofs.YtgghigfflpbjiaaGreatDoor
/- What the program asks of a step by its rule. -/
namespace Go.Proofs.YtgghigfflpbjiaaGreatDoor
open Go.RowKit
set_option linter.unusedVariables false
namespace Pf
open Ex (hid inR eFault typeCode typeVal implExprFault)
open Nd (NodeD)
open St (StepD)
open Tr (nf)
def allowsR (r : RuleD) (s : StepD) : Bool := (r.hn || s.name.toList.isEmpty) && (decide (0 < r.ma) || (s.arg == 0)) && (r.he || decide (s.expr.length = 0))
def partsR (r : RuleD) (s : StepD) : Int := if r.hn = true ∧ nf s.name.data.toList ≠ 0 then nf s.name.data.toList else if s.arg < r.la ∨ r.ma < s.arg then 3 else if r.he = true then eFault s.expr else 0
theorem allows_eq {s : StepD} (h : inR s.kind 1 8 = true) : allowsR (ruleD s.kind) s = bare s := by
  unfold allowsR bare
  rcases kinds h with e | e | e | e | e | e | e | e <;> rw [e] <;> simp [rule1, rule2, rule3, rule4, rule5, rule6, rule7, rule8, inR]
theorem parts_eq {s : StepD} (h : inR s.kind 1 8 = true) (hb : bare s = true) : partsR (ruleD s.kind) s = partC s := by
  unfold partsR partC argOk
  unfold bare at hb
  rcases kinds h with e | e | e | e | e | e | e | e <;> rw [e] at hb ⊢ <;> simp [inR] at hb
  · have := hb.1.2
    simp [rule1, this]
  · have := hb.1
    simp [rule2, this]
  · have := hb.1.2
    simp [rule3, this]
  · have := hb.1.2
    simp [rule4, this]
  · have e1 : (s.arg < 0 ∨ 9 < s.arg) ↔ inR s.arg 0 9 = false := by rw [Ex.inR_not]; omega
    simp [rule5, e1]
  · have e1 : (s.arg < 1 ∨ 99 < s.arg) ↔ inR s.arg 1 99 = false := by rw [Ex.inR_not]; omega
    simp [rule6, e1]
  · have e1 : (s.arg < 0 ∨ 3 < s.arg) ↔ inR s.arg 0 3 = false := by rw [Ex.inR_not]; omega
    simp [rule7, e1]
  · have e1 : (s.arg < 1 ∨ 99 < s.arg) ↔ inR s.arg 1 99 = false := by rw [Ex.inR_not]; omega
    simp [rule8, e1]
theorem parts_nm {r : RuleD} {s : StepD} (h : r.hn = true) (h2 : nf s.name.data.toList ≠ 0) : partsR r s = nf s.name.data.toList := by unfold partsR; rw [if_pos ⟨h, h2⟩]
theorem parts_rng {r : RuleD} {s : StepD} (h : ¬ (r.hn = true ∧ nf s.name.data.toList ≠ 0)) (h2 : s.arg < r.la ∨ r.ma < s.arg) : partsR r s = 3 := by unfold partsR; rw [if_neg h, if_pos h2]
theorem parts_ex {r : RuleD} {s : StepD} (h : ¬ (r.hn = true ∧ nf s.name.data.toList ≠ 0)) (h2 : ¬ (s.arg < r.la ∨ r.ma < s.arg)) (h3 : r.he = true) : partsR r s = eFault s.expr := by unfold partsR; rw [if_neg h, if_neg h2, if_pos h3]
theorem parts_no {r : RuleD} {s : StepD} (h : ¬ (r.hn = true ∧ nf s.name.data.toList ≠ 0)) (h2 : ¬ (s.arg < r.la ∨ r.ma < s.arg)) (h3 : r.he = false) : partsR r s = 0 := by unfold partsR; rw [if_neg h, if_neg h2, if_neg (by simp [h3])]
set_option maxRecDepth 100000 in
set_option maxHeartbeats 1000000 in
theorem hasArg (r : RuleD) (w : World) : Calls Tryz.prog 112 #[.agg #[.string r.word, .bool r.hn, .bool r.he, .int .i64 r.la, .int .i64 r.ma, .int .i64 r.lk, .int .i64 r.mx]] w fun e w' => e = .returned (.bool (decide (0 < r.ma))) ∧ Below w.heap.size w w' := by
  go_enter Tryz.func112, Tryz.ntmps112
  go_wp2
  go_ret
  exact ⟨rfl, (Below.refl _ w).alloc (Nat.le_refl _) _⟩
set_option maxRecDepth 100000 in
set_option maxHeartbeats 8000000 in
theorem allows (r : RuleD) (s : StepD) (vc : Value) (a : Option Addr) (n cap : Nat) (w : World) (hn : n = s.expr.length) (hl : n ≤ 1048576) (hvc : ∃ x y z, vc = .slice x y z) :
    Calls Tryz.prog 95 #[.agg #[.string r.word, .bool r.hn, .bool r.he, .int .i64 r.la, .int .i64 r.ma, .int .i64 r.lk, .int .i64 r.mx], .agg #[.int .i64 s.kind, .int .i64 s.parent, .string s.name, .int .i64 s.arg, vc, .slice a n cap]] w fun e w' => e = .returned (.bool (allowsR r s)) ∧ Below w.heap.size w w' := by
  obtain ⟨vx, vy, vz, rfl⟩ := hvc
  have HA := hid (fun w' => hasArg r w')
  have HB : Hid (Below w.heap.size w ((w.alloc (.cells #[.string r.word, .bool r.hn, .bool r.he, .int .i64 r.la, .int .i64 r.ma, .int .i64 r.lk, .int .i64 r.mx] 82)).alloc (.cells #[.int .i64 s.kind, .int .i64 s.parent, .string s.name, .int .i64 s.arg, .slice vx vy vz, .slice a n cap] 49))) := hid (((Below.refl _ w).alloc (Nat.le_refl _) _).alloc (by simp) _)
  unfold allowsR
  rw [← hn]
  clear hn
  have hE : decide (n = 0) = ((n : Int) == 0) := by
    by_cases h : n = 0
    · simp [h]
    · have : ((n : Int) == 0) = false := beq_eq_false_iff_ne.2 (by omega)
      simp [h, this]
  rw [hE]
  clear hE
  generalize s.kind = kind at *
  generalize s.parent = par at *
  generalize s.name = nm at *
  generalize s.arg = arg at *
  obtain ⟨word, hn, he, la, ma, lk, mx⟩ := r
  simp only at HA HB ⊢
  cases hn
  · cases b2 : nm.toList.isEmpty
    · skip
      go_enter Tryz.func95, Tryz.ntmps95
      go_wp2
      go_ret
      exact ⟨by simp [*], HB.out⟩
    · skip
      go_enter Tryz.func95, Tryz.ntmps95
      go_wp2_with fail
      refine (HA.out _).mono ?_
      rintro e w1 ⟨rfl, hb1⟩
      have hz1 := hb1.size
      simp only [World.size_alloc] at hz1
      have l0 : w.heap.size < w1.heap.size := by omega
      have l1 : w.heap.size + 1 < w1.heap.size := by omega
      have r0 := (hb1.cell (p := ⟨w.heap.size, 2, none⟩) (by simp; omega)).trans (show _ = some (.bool he) by go_simp)
      have r1 := (hb1.cell (p := ⟨w.heap.size + 1, 3, none⟩) (by simp)).trans (show _ = some (.int .i64 arg) by go_simp)
      have r2 := (hb1.cell (p := ⟨w.heap.size + 1, 5, none⟩) (by simp)).trans (show _ = some (.slice a n cap) by go_simp)
      have HB1 := hid (HB.out.trans (hb1.mono HB.out.size))
      clear HA HB hb1
      by_cases m : 0 < ma
      · have m1 : decide (0 < ma) = true := by simp [m]
        cases he
        · cases b6 : ((n : Int) == 0)
          · skip
            go_wp2
            go_ret
            exact ⟨by simp [*], HB1.out⟩
          · skip
            go_wp2
            go_ret
            exact ⟨by simp [*], HB1.out⟩
        · skip
          go_wp2
          go_ret
          exact ⟨by simp [*], HB1.out⟩
      · have m1 : decide (0 < ma) = false := by simp [m]
        cases b4 : (arg == 0)
        · skip
          go_wp2
          go_ret
          exact ⟨by simp [*], HB1.out⟩
        cases he
        · cases b6 : ((n : Int) == 0)
          · skip
            go_wp2
            go_ret
            exact ⟨by simp [*], HB1.out⟩
          · skip
            go_wp2
            go_ret
            exact ⟨by simp [*], HB1.out⟩
        · skip
          go_wp2
          go_ret
          exact ⟨by simp [*], HB1.out⟩
  · skip
    go_enter Tryz.func95, Tryz.ntmps95
    go_wp2_with fail
    refine (HA.out _).mono ?_
    rintro e w1 ⟨rfl, hb1⟩
    have hz1 := hb1.size
    simp only [World.size_alloc] at hz1
    have l0 : w.heap.size < w1.heap.size := by omega
    have l1 : w.heap.size + 1 < w1.heap.size := by omega
    have r0 := (hb1.cell (p := ⟨w.heap.size, 2, none⟩) (by simp; omega)).trans (show _ = some (.bool he) by go_simp)
    have r1 := (hb1.cell (p := ⟨w.heap.size + 1, 3, none⟩) (by simp)).trans (show _ = some (.int .i64 arg) by go_simp)
    have r2 := (hb1.cell (p := ⟨w.heap.size + 1, 5, none⟩) (by simp)).trans (show _ = some (.slice a n cap) by go_simp)
    have HB1 := hid (HB.out.trans (hb1.mono HB.out.size))
    clear HA HB hb1
    by_cases m : 0 < ma
    · have m1 : decide (0 < ma) = true := by simp [m]
      cases he
      · cases b6 : ((n : Int) == 0)
        · skip
          go_wp2
          go_ret
          exact ⟨by simp [*], HB1.out⟩
        · skip
          go_wp2
          go_ret
          exact ⟨by simp [*], HB1.out⟩
      · skip
        go_wp2
        go_ret
        exact ⟨by simp [*], HB1.out⟩
    · have m1 : decide (0 < ma) = false := by simp [m]
      cases b4 : (arg == 0)
      · skip
        go_wp2
        go_ret
        exact ⟨by simp [*], HB1.out⟩
      cases he
      · cases b6 : ((n : Int) == 0)
        · skip
          go_wp2
          go_ret
          exact ⟨by simp [*], HB1.out⟩
        · skip
          go_wp2
          go_ret
          exact ⟨by simp [*], HB1.out⟩
      · skip
        go_wp2
        go_ret
        exact ⟨by simp [*], HB1.out⟩
set_option maxRecDepth 100000 in
set_option maxHeartbeats 8000000 in
theorem partsFault (r : RuleD) (s : StepD) (vc : Value) (a : Option Addr) (cap B : Nat) (w : World) (hl : s.expr.length ≤ 1048576) (hn : s.name.size ≤ maxLen) (hvc : ∃ x y z, vc = .slice x y z) (hve : Nd.At w B (.slice a s.expr.length cap) s.expr) :
    Calls Tryz.prog 97 #[.agg #[.string r.word, .bool r.hn, .bool r.he, .int .i64 r.la, .int .i64 r.ma, .int .i64 r.lk, .int .i64 r.mx], .agg #[.int .i64 s.kind, .int .i64 s.parent, .string s.name, .int .i64 s.arg, vc, .slice a s.expr.length cap]] w fun e w' => e = .returned (.int .i64 (partsR r s)) ∧ Below w.heap.size w w' := by
  obtain ⟨vx, vy, vz, rfl⟩ := hvc
  have hB : Below w.heap.size w ((w.alloc (.cells #[.string r.word, .bool r.hn, .bool r.he, .int .i64 r.la, .int .i64 r.ma, .int .i64 r.lk, .int .i64 r.mx] 82)).alloc (.cells #[.int .i64 s.kind, .int .i64 s.parent, .string s.name, .int .i64 s.arg, .slice vx vy vz, .slice a s.expr.length cap] 49)) := ((Below.refl _ w).alloc (Nat.le_refl _) _).alloc (by simp) _
  have HX := hid (implExprFault B s.expr _ _ hl (hve.below hB))
  have HN := hid (fun w' => Tr.impl_nf s.name w' hn)
  have HB := hid hB
  clear hB hve hn
  have F1 := hid (parts_nm (r := r) (s := s))
  have F2 := hid (parts_rng (r := r) (s := s))
  have F3 := hid (parts_ex (r := r) (s := s))
  have F4 := hid (parts_no (r := r) (s := s))
  generalize partsR r s = pr at *
  generalize eFault s.expr = ef at *
  generalize nf s.name.data.toList = nc at *
  generalize s.expr.length = n at *
  generalize s.kind = kind at *
  generalize s.parent = par at *
  generalize s.name = nm at *
  generalize s.arg = arg at *
  obtain ⟨word, hn, he, la, ma, lk, mx⟩ := r
  simp only at HX HN HB F1 F2 F3 F4 ⊢
  cases hn
  · skip
    by_cases z1 : arg < la
    · skip
      have HV := hid (F2.out (by simp) (.inl z1))
      clear F1 F2 F3 F4
      go_enter Tryz.func97, Tryz.ntmps97
      go_wp2
      go_ret
      exact ⟨by rw [HV.out]; rfl, HB.out⟩
    by_cases z2 : ma < arg
    · skip
      have HV := hid (F2.out (by simp) (.inr z2))
      clear F1 F2 F3 F4
      go_enter Tryz.func97, Tryz.ntmps97
      go_wp2
      go_ret
      exact ⟨by rw [HV.out]; rfl, HB.out⟩
    cases he
    · skip
      have HV := hid (F4.out (by simp) (by omega) rfl)
      clear F1 F2 F3 F4
      go_enter Tryz.func97, Tryz.ntmps97
      go_wp2
      go_ret
      exact ⟨by rw [HV.out]; rfl, HB.out⟩
    · skip
      have HV := hid (F3.out (by simp) (by omega) rfl)
      clear F1 F2 F3 F4
      go_enter Tryz.func97, Tryz.ntmps97
      go_wp2_with (first | (go_at_call 100; refine HX.out.mono ?_; rintro e w2 ⟨rfl, hb2⟩))
      go_ret
      exact ⟨by rw [HV.out]; rfl, HB.out.trans (hb2.mono HB.out.size)⟩
  · by_cases hz : nc = 0
    · have b1 : (nc != 0) = false := by simp [hz]
      by_cases z1 : arg < la
      · skip
        have HV := hid (F2.out (by simp [hz]) (.inl z1))
        clear F1 F2 F3 F4
        go_enter Tryz.func97, Tryz.ntmps97
        go_wp2_with (first | (go_at_call 81; refine (HN.out _).mono ?_; rintro e w1 ⟨rfl, hw1⟩; replace hw1 := hw1.symm; subst hw1))
        go_ret
        exact ⟨by rw [HV.out]; rfl, HB.out⟩
      by_cases z2 : ma < arg
      · skip
        have HV := hid (F2.out (by simp [hz]) (.inr z2))
        clear F1 F2 F3 F4
        go_enter Tryz.func97, Tryz.ntmps97
        go_wp2_with (first | (go_at_call 81; refine (HN.out _).mono ?_; rintro e w1 ⟨rfl, hw1⟩; replace hw1 := hw1.symm; subst hw1))
        go_ret
        exact ⟨by rw [HV.out]; rfl, HB.out⟩
      cases he
      · skip
        have HV := hid (F4.out (by simp [hz]) (by omega) rfl)
        clear F1 F2 F3 F4
        go_enter Tryz.func97, Tryz.ntmps97
        go_wp2_with (first | (go_at_call 81; refine (HN.out _).mono ?_; rintro e w1 ⟨rfl, hw1⟩; replace hw1 := hw1.symm; subst hw1))
        go_ret
        exact ⟨by rw [HV.out]; rfl, HB.out⟩
      · skip
        have HV := hid (F3.out (by simp [hz]) (by omega) rfl)
        clear F1 F2 F3 F4
        go_enter Tryz.func97, Tryz.ntmps97
        go_wp2_with (first | (go_at_call 81; refine (HN.out _).mono ?_; rintro e w1 ⟨rfl, hw1⟩; replace hw1 := hw1.symm; subst hw1) | (go_at_call 100; refine HX.out.mono ?_; rintro e w2 ⟨rfl, hb2⟩))
        go_ret
        exact ⟨by rw [HV.out]; rfl, HB.out.trans (hb2.mono HB.out.size)⟩
    · have b1 : (nc != 0) = true := bne_iff_ne.2 hz
      have HV := hid (F1.out rfl hz)
      clear F1 F2 F3 F4
      go_enter Tryz.func97, Tryz.ntmps97
      go_wp2_with (first | (go_at_call 81; refine (HN.out _).mono ?_; rintro e w1 ⟨rfl, hw1⟩; replace hw1 := hw1.symm; subst hw1))
      go_ret
      exact ⟨by rw [HV.out]; rfl, HB.out⟩
end Pf
end Go.Proofs.YtgghigfflpbjiaaGreatDoor
