/- The program's table of rules of nodes. Condition of what reads the table: it lies as its initialiser lays it. -/
import Derived.Test.YtepfkfhbkbkepaaDoorGfM
import Derived.Test.YtepfkfhbkbkepaaDoorNmA
import Derived.Deep.QuietTactic
import Derived.BigQuiet
namespace Go.Proofs.YtepfkfhbkbkepaaDoor
open Go.RowKit
set_option linter.unusedVariables false
namespace Gr
open Ex (hid inR)
open Nd (NodeD)
open Gn (GNodeD)
open Tr (nf)
structure NRuleD where
  word : ByteArray
  hs : Bool
  hn : Bool
  ha : Bool
  he : Bool
def NRuleD.row (r : NRuleD) : Array Value := #[.string r.word, .bool r.hs, .bool r.hn, .bool r.ha, .bool r.he]
def nruleVals : List Value := [.string ⟨#[115, 116, 97, 114, 116]⟩, .bool false, .bool false, .bool false, .bool false, .string ⟨#[101, 110, 100]⟩, .bool false, .bool false, .bool false, .bool false, .string ⟨#[116, 97, 115, 107]⟩, .bool true, .bool true, .bool false, .bool false, .string ⟨#[119, 97, 105, 116]⟩, .bool true, .bool false, .bool true, .bool false, .string ⟨#[116, 105, 109, 101, 114]⟩, .bool true, .bool false, .bool true, .bool false, .string ⟨#[115, 101, 116]⟩, .bool true, .bool false, .bool true, .bool true, .string ⟨#[115, 112, 108, 105, 116]⟩, .bool true, .bool false, .bool false, .bool false, .string ⟨#[106, 111, 105, 110]⟩, .bool true, .bool false, .bool false, .bool false, .string ⟨#[102, 111, 114, 107]⟩, .bool true, .bool false, .bool false, .bool false, .string ⟨#[109, 101, 101, 116]⟩, .bool true, .bool false, .bool false, .bool false, .string ⟨#[111, 112, 101, 110]⟩, .bool true, .bool false, .bool true, .bool false, .string ⟨#[99, 108, 111, 115, 101]⟩, .bool true, .bool false, .bool false, .bool false, .string ⟨#[109, 101, 114, 103, 101]⟩, .bool true, .bool false, .bool false, .bool false]
/-- The table of rules of nodes lies as its initialiser lays it. -/
def NRul (w : World) : Prop := ∀ i : Nat, i < 65 → w.cell? ⟨0, i, none⟩ = nruleVals[i]?
theorem NRul.below {w w' : World} {B : Nat} (he : NRul w) (h : Below B w w') (hB : 0 < B) : NRul w' := fun i hi => (h.cell (p := ⟨0, i, none⟩) hB).trans (he i hi)
theorem NRul.lt {w : World} (h : NRul w) : 0 < w.heap.size := Nd.lt_of_cell (v := .string ⟨#[115, 116, 97, 114, 116]⟩) (h 0 (by decide))
def nruleD (k : Int) : NRuleD := if k = 1 then ⟨⟨#[115, 116, 97, 114, 116]⟩, false, false, false, false⟩ else if k = 2 then ⟨⟨#[101, 110, 100]⟩, false, false, false, false⟩ else if k = 3 then ⟨⟨#[116, 97, 115, 107]⟩, true, true, false, false⟩ else if k = 4 then ⟨⟨#[119, 97, 105, 116]⟩, true, false, true, false⟩ else if k = 5 then ⟨⟨#[116, 105, 109, 101, 114]⟩, true, false, true, false⟩ else if k = 6 then ⟨⟨#[115, 101, 116]⟩, true, false, true, true⟩ else if k = 7 then ⟨⟨#[115, 112, 108, 105, 116]⟩, true, false, false, false⟩ else if k = 8 then ⟨⟨#[106, 111, 105, 110]⟩, true, false, false, false⟩ else if k = 9 then ⟨⟨#[102, 111, 114, 107]⟩, true, false, false, false⟩ else if k = 10 then ⟨⟨#[109, 101, 101, 116]⟩, true, false, false, false⟩ else if k = 11 then ⟨⟨#[111, 112, 101, 110]⟩, true, false, true, false⟩ else if k = 12 then ⟨⟨#[99, 108, 111, 115, 101]⟩, true, false, false, false⟩ else if k = 13 then ⟨⟨#[109, 101, 114, 103, 101]⟩, true, false, false, false⟩ else ⟨⟨#[]⟩, false, false, false, false⟩
theorem nrule1 : nruleD 1 = ⟨⟨#[115, 116, 97, 114, 116]⟩, false, false, false, false⟩ := rfl
theorem nrule2 : nruleD 2 = ⟨⟨#[101, 110, 100]⟩, false, false, false, false⟩ := rfl
theorem nrule3 : nruleD 3 = ⟨⟨#[116, 97, 115, 107]⟩, true, true, false, false⟩ := rfl
theorem nrule4 : nruleD 4 = ⟨⟨#[119, 97, 105, 116]⟩, true, false, true, false⟩ := rfl
theorem nrule5 : nruleD 5 = ⟨⟨#[116, 105, 109, 101, 114]⟩, true, false, true, false⟩ := rfl
theorem nrule6 : nruleD 6 = ⟨⟨#[115, 101, 116]⟩, true, false, true, true⟩ := rfl
theorem nrule7 : nruleD 7 = ⟨⟨#[115, 112, 108, 105, 116]⟩, true, false, false, false⟩ := rfl
theorem nrule8 : nruleD 8 = ⟨⟨#[106, 111, 105, 110]⟩, true, false, false, false⟩ := rfl
theorem nrule9 : nruleD 9 = ⟨⟨#[102, 111, 114, 107]⟩, true, false, false, false⟩ := rfl
theorem nrule10 : nruleD 10 = ⟨⟨#[109, 101, 101, 116]⟩, true, false, false, false⟩ := rfl
theorem nrule11 : nruleD 11 = ⟨⟨#[111, 112, 101, 110]⟩, true, false, true, false⟩ := rfl
theorem nrule12 : nruleD 12 = ⟨⟨#[99, 108, 111, 115, 101]⟩, true, false, false, false⟩ := rfl
theorem nrule13 : nruleD 13 = ⟨⟨#[109, 101, 114, 103, 101]⟩, true, false, false, false⟩ := rfl
theorem nkinds {k : Int} (h : inR k 1 13 = true) : k = 1 ∨ k = 2 ∨ k = 3 ∨ k = 4 ∨ k = 5 ∨ k = 6 ∨ k = 7 ∨ k = 8 ∨ k = 9 ∨ k = 10 ∨ k = 11 ∨ k = 12 ∨ k = 13 := by
  have := Ex.inR_iff.1 h
  omega
def allowsN (r : NRuleD) (n : GNodeD) : Bool := (r.hs || (n.step == 0)) && (r.hn || n.name.toList.isEmpty) && (r.ha || (n.arg == 0)) && (r.he || ((n.expr.length : Int) == 0))
theorem allowsN_eq {n : GNodeD} (h : inR n.kind 1 13 = true) : allowsN (nruleD n.kind) n = bare n := by
  unfold allowsN bare argK endK
  rcases nkinds h with e | e | e | e | e | e | e | e | e | e | e | e | e <;> rw [e] <;> simp [nrule1, nrule2, nrule3, nrule4, nrule5, nrule6, nrule7, nrule8, nrule9, nrule10, nrule11, nrule12, nrule13, inR] <;> (try (cases (n.step == 0) <;> cases n.name.toList.isEmpty <;> cases (n.arg == 0) <;> cases ((n.expr.length : Int) == 0) <;> rfl))
theorem hn_iff {k : Int} (h : inR k 1 13 = true) : (nruleD k).hn = decide (k = 3) := by
  rcases nkinds h with e | e | e | e | e | e | e | e | e | e | e | e | e <;> subst e <;> rfl
set_option maxRecDepth 100000 in
set_option maxHeartbeats 4000000 in
theorem nruleBad (k : Int) (w : World) (hb : inR k 1 13 = false) :
    Calls Tryd.prog 36 #[.int .i64 k] w fun e w' => e = .returned (.tuple #[.agg #[.string ⟨#[]⟩, .bool false, .bool false, .bool false, .bool false], .bool false]) ∧ Below w.heap.size w w' := by
  have hb' := Ex.inR_not.1 hb
  by_cases h1 : k < 1
  · go_enter Tryd.func36, Tryd.ntmps36
    go_wp2
    exact bodyPost_ret (v := .tuple #[.agg #[.string ⟨#[]⟩, .bool false, .bool false, .bool false, .bool false], .bool false]) (by simp [results, Tryd.results36, go_sem]) rfl ⟨rfl, (Below.refl _ w).alloc (Nat.le_refl _) _⟩
  · have h8 : 13 < k := by omega
    go_enter Tryd.func36, Tryd.ntmps36
    go_wp2
    exact bodyPost_ret (v := .tuple #[.agg #[.string ⟨#[]⟩, .bool false, .bool false, .bool false, .bool false], .bool false]) (by simp [results, Tryd.results36, go_sem]) rfl ⟨rfl, (Below.refl _ w).alloc (Nat.le_refl _) _⟩
set_option maxRecDepth 100000 in
set_option maxHeartbeats 4000000 in
theorem nruleOk (k : Int) (w : World) (hin : inR k 1 13 = true) (hr : NRul w) :
    Calls Tryd.prog 36 #[.int .i64 k] w fun e w' => e = .returned (.tuple #[.agg (nruleD k).row, .bool true]) ∧ Below w.heap.size w w' := by
  have HR := hid hr
  have hlt := hr.lt
  clear hr
  rcases nkinds hin with rfl | rfl | rfl | rfl | rfl | rfl | rfl | rfl | rfl | rfl | rfl | rfl | rfl
  · clear hin
    have c0 : w.cell? ⟨0, 0, none⟩ = some (.string ⟨#[115, 116, 97, 114, 116]⟩) := HR.out 0 (by decide)
    have c1 : w.cell? ⟨0, 1, none⟩ = some (.bool false) := HR.out 1 (by decide)
    have c2 : w.cell? ⟨0, 2, none⟩ = some (.bool false) := HR.out 2 (by decide)
    have c3 : w.cell? ⟨0, 3, none⟩ = some (.bool false) := HR.out 3 (by decide)
    have c4 : w.cell? ⟨0, 4, none⟩ = some (.bool false) := HR.out 4 (by decide)
    go_enter Tryd.func36, Tryd.ntmps36
    go_wp2
    refine bodyPost_ret (v := .tuple #[.agg #[.string ⟨#[115, 116, 97, 114, 116]⟩, .bool false, .bool false, .bool false, .bool false], .bool true]) (by simp [results, Tryd.results36, go_sem]) rfl ⟨rfl, ?_⟩
    exact (Below.refl _ w).alloc (Nat.le_refl _) _
  · clear hin
    have c0 : w.cell? ⟨0, 5, none⟩ = some (.string ⟨#[101, 110, 100]⟩) := HR.out 5 (by decide)
    have c1 : w.cell? ⟨0, 6, none⟩ = some (.bool false) := HR.out 6 (by decide)
    have c2 : w.cell? ⟨0, 7, none⟩ = some (.bool false) := HR.out 7 (by decide)
    have c3 : w.cell? ⟨0, 8, none⟩ = some (.bool false) := HR.out 8 (by decide)
    have c4 : w.cell? ⟨0, 9, none⟩ = some (.bool false) := HR.out 9 (by decide)
    go_enter Tryd.func36, Tryd.ntmps36
    go_wp2
    refine bodyPost_ret (v := .tuple #[.agg #[.string ⟨#[101, 110, 100]⟩, .bool false, .bool false, .bool false, .bool false], .bool true]) (by simp [results, Tryd.results36, go_sem]) rfl ⟨rfl, ?_⟩
    exact (Below.refl _ w).alloc (Nat.le_refl _) _
  · clear hin
    have c0 : w.cell? ⟨0, 10, none⟩ = some (.string ⟨#[116, 97, 115, 107]⟩) := HR.out 10 (by decide)
    have c1 : w.cell? ⟨0, 11, none⟩ = some (.bool true) := HR.out 11 (by decide)
    have c2 : w.cell? ⟨0, 12, none⟩ = some (.bool true) := HR.out 12 (by decide)
    have c3 : w.cell? ⟨0, 13, none⟩ = some (.bool false) := HR.out 13 (by decide)
    have c4 : w.cell? ⟨0, 14, none⟩ = some (.bool false) := HR.out 14 (by decide)
    go_enter Tryd.func36, Tryd.ntmps36
    go_wp2
    refine bodyPost_ret (v := .tuple #[.agg #[.string ⟨#[116, 97, 115, 107]⟩, .bool true, .bool true, .bool false, .bool false], .bool true]) (by simp [results, Tryd.results36, go_sem]) rfl ⟨rfl, ?_⟩
    exact (Below.refl _ w).alloc (Nat.le_refl _) _
  · clear hin
    have c0 : w.cell? ⟨0, 15, none⟩ = some (.string ⟨#[119, 97, 105, 116]⟩) := HR.out 15 (by decide)
    have c1 : w.cell? ⟨0, 16, none⟩ = some (.bool true) := HR.out 16 (by decide)
    have c2 : w.cell? ⟨0, 17, none⟩ = some (.bool false) := HR.out 17 (by decide)
    have c3 : w.cell? ⟨0, 18, none⟩ = some (.bool true) := HR.out 18 (by decide)
    have c4 : w.cell? ⟨0, 19, none⟩ = some (.bool false) := HR.out 19 (by decide)
    go_enter Tryd.func36, Tryd.ntmps36
    go_wp2
    refine bodyPost_ret (v := .tuple #[.agg #[.string ⟨#[119, 97, 105, 116]⟩, .bool true, .bool false, .bool true, .bool false], .bool true]) (by simp [results, Tryd.results36, go_sem]) rfl ⟨rfl, ?_⟩
    exact (Below.refl _ w).alloc (Nat.le_refl _) _
  · clear hin
    have c0 : w.cell? ⟨0, 20, none⟩ = some (.string ⟨#[116, 105, 109, 101, 114]⟩) := HR.out 20 (by decide)
    have c1 : w.cell? ⟨0, 21, none⟩ = some (.bool true) := HR.out 21 (by decide)
    have c2 : w.cell? ⟨0, 22, none⟩ = some (.bool false) := HR.out 22 (by decide)
    have c3 : w.cell? ⟨0, 23, none⟩ = some (.bool true) := HR.out 23 (by decide)
    have c4 : w.cell? ⟨0, 24, none⟩ = some (.bool false) := HR.out 24 (by decide)
    go_enter Tryd.func36, Tryd.ntmps36
    go_wp2
    refine bodyPost_ret (v := .tuple #[.agg #[.string ⟨#[116, 105, 109, 101, 114]⟩, .bool true, .bool false, .bool true, .bool false], .bool true]) (by simp [results, Tryd.results36, go_sem]) rfl ⟨rfl, ?_⟩
    exact (Below.refl _ w).alloc (Nat.le_refl _) _
  · clear hin
    have c0 : w.cell? ⟨0, 25, none⟩ = some (.string ⟨#[115, 101, 116]⟩) := HR.out 25 (by decide)
    have c1 : w.cell? ⟨0, 26, none⟩ = some (.bool true) := HR.out 26 (by decide)
    have c2 : w.cell? ⟨0, 27, none⟩ = some (.bool false) := HR.out 27 (by decide)
    have c3 : w.cell? ⟨0, 28, none⟩ = some (.bool true) := HR.out 28 (by decide)
    have c4 : w.cell? ⟨0, 29, none⟩ = some (.bool true) := HR.out 29 (by decide)
    go_enter Tryd.func36, Tryd.ntmps36
    go_wp2
    refine bodyPost_ret (v := .tuple #[.agg #[.string ⟨#[115, 101, 116]⟩, .bool true, .bool false, .bool true, .bool true], .bool true]) (by simp [results, Tryd.results36, go_sem]) rfl ⟨rfl, ?_⟩
    exact (Below.refl _ w).alloc (Nat.le_refl _) _
  · clear hin
    have c0 : w.cell? ⟨0, 30, none⟩ = some (.string ⟨#[115, 112, 108, 105, 116]⟩) := HR.out 30 (by decide)
    have c1 : w.cell? ⟨0, 31, none⟩ = some (.bool true) := HR.out 31 (by decide)
    have c2 : w.cell? ⟨0, 32, none⟩ = some (.bool false) := HR.out 32 (by decide)
    have c3 : w.cell? ⟨0, 33, none⟩ = some (.bool false) := HR.out 33 (by decide)
    have c4 : w.cell? ⟨0, 34, none⟩ = some (.bool false) := HR.out 34 (by decide)
    go_enter Tryd.func36, Tryd.ntmps36
    go_wp2
    refine bodyPost_ret (v := .tuple #[.agg #[.string ⟨#[115, 112, 108, 105, 116]⟩, .bool true, .bool false, .bool false, .bool false], .bool true]) (by simp [results, Tryd.results36, go_sem]) rfl ⟨rfl, ?_⟩
    exact (Below.refl _ w).alloc (Nat.le_refl _) _
  · clear hin
    have c0 : w.cell? ⟨0, 35, none⟩ = some (.string ⟨#[106, 111, 105, 110]⟩) := HR.out 35 (by decide)
    have c1 : w.cell? ⟨0, 36, none⟩ = some (.bool true) := HR.out 36 (by decide)
    have c2 : w.cell? ⟨0, 37, none⟩ = some (.bool false) := HR.out 37 (by decide)
    have c3 : w.cell? ⟨0, 38, none⟩ = some (.bool false) := HR.out 38 (by decide)
    have c4 : w.cell? ⟨0, 39, none⟩ = some (.bool false) := HR.out 39 (by decide)
    go_enter Tryd.func36, Tryd.ntmps36
    go_wp2
    refine bodyPost_ret (v := .tuple #[.agg #[.string ⟨#[106, 111, 105, 110]⟩, .bool true, .bool false, .bool false, .bool false], .bool true]) (by simp [results, Tryd.results36, go_sem]) rfl ⟨rfl, ?_⟩
    exact (Below.refl _ w).alloc (Nat.le_refl _) _
  · clear hin
    have c0 : w.cell? ⟨0, 40, none⟩ = some (.string ⟨#[102, 111, 114, 107]⟩) := HR.out 40 (by decide)
    have c1 : w.cell? ⟨0, 41, none⟩ = some (.bool true) := HR.out 41 (by decide)
    have c2 : w.cell? ⟨0, 42, none⟩ = some (.bool false) := HR.out 42 (by decide)
    have c3 : w.cell? ⟨0, 43, none⟩ = some (.bool false) := HR.out 43 (by decide)
    have c4 : w.cell? ⟨0, 44, none⟩ = some (.bool false) := HR.out 44 (by decide)
    go_enter Tryd.func36, Tryd.ntmps36
    go_wp2
    refine bodyPost_ret (v := .tuple #[.agg #[.string ⟨#[102, 111, 114, 107]⟩, .bool true, .bool false, .bool false, .bool false], .bool true]) (by simp [results, Tryd.results36, go_sem]) rfl ⟨rfl, ?_⟩
    exact (Below.refl _ w).alloc (Nat.le_refl _) _
  · clear hin
    have c0 : w.cell? ⟨0, 45, none⟩ = some (.string ⟨#[109, 101, 101, 116]⟩) := HR.out 45 (by decide)
    have c1 : w.cell? ⟨0, 46, none⟩ = some (.bool true) := HR.out 46 (by decide)
    have c2 : w.cell? ⟨0, 47, none⟩ = some (.bool false) := HR.out 47 (by decide)
    have c3 : w.cell? ⟨0, 48, none⟩ = some (.bool false) := HR.out 48 (by decide)
    have c4 : w.cell? ⟨0, 49, none⟩ = some (.bool false) := HR.out 49 (by decide)
    go_enter Tryd.func36, Tryd.ntmps36
    go_wp2
    refine bodyPost_ret (v := .tuple #[.agg #[.string ⟨#[109, 101, 101, 116]⟩, .bool true, .bool false, .bool false, .bool false], .bool true]) (by simp [results, Tryd.results36, go_sem]) rfl ⟨rfl, ?_⟩
    exact (Below.refl _ w).alloc (Nat.le_refl _) _
  · clear hin
    have c0 : w.cell? ⟨0, 50, none⟩ = some (.string ⟨#[111, 112, 101, 110]⟩) := HR.out 50 (by decide)
    have c1 : w.cell? ⟨0, 51, none⟩ = some (.bool true) := HR.out 51 (by decide)
    have c2 : w.cell? ⟨0, 52, none⟩ = some (.bool false) := HR.out 52 (by decide)
    have c3 : w.cell? ⟨0, 53, none⟩ = some (.bool true) := HR.out 53 (by decide)
    have c4 : w.cell? ⟨0, 54, none⟩ = some (.bool false) := HR.out 54 (by decide)
    go_enter Tryd.func36, Tryd.ntmps36
    go_wp2
    refine bodyPost_ret (v := .tuple #[.agg #[.string ⟨#[111, 112, 101, 110]⟩, .bool true, .bool false, .bool true, .bool false], .bool true]) (by simp [results, Tryd.results36, go_sem]) rfl ⟨rfl, ?_⟩
    exact (Below.refl _ w).alloc (Nat.le_refl _) _
  · clear hin
    have c0 : w.cell? ⟨0, 55, none⟩ = some (.string ⟨#[99, 108, 111, 115, 101]⟩) := HR.out 55 (by decide)
    have c1 : w.cell? ⟨0, 56, none⟩ = some (.bool true) := HR.out 56 (by decide)
    have c2 : w.cell? ⟨0, 57, none⟩ = some (.bool false) := HR.out 57 (by decide)
    have c3 : w.cell? ⟨0, 58, none⟩ = some (.bool false) := HR.out 58 (by decide)
    have c4 : w.cell? ⟨0, 59, none⟩ = some (.bool false) := HR.out 59 (by decide)
    go_enter Tryd.func36, Tryd.ntmps36
    go_wp2
    refine bodyPost_ret (v := .tuple #[.agg #[.string ⟨#[99, 108, 111, 115, 101]⟩, .bool true, .bool false, .bool false, .bool false], .bool true]) (by simp [results, Tryd.results36, go_sem]) rfl ⟨rfl, ?_⟩
    exact (Below.refl _ w).alloc (Nat.le_refl _) _
  · clear hin
    have c0 : w.cell? ⟨0, 60, none⟩ = some (.string ⟨#[109, 101, 114, 103, 101]⟩) := HR.out 60 (by decide)
    have c1 : w.cell? ⟨0, 61, none⟩ = some (.bool true) := HR.out 61 (by decide)
    have c2 : w.cell? ⟨0, 62, none⟩ = some (.bool false) := HR.out 62 (by decide)
    have c3 : w.cell? ⟨0, 63, none⟩ = some (.bool false) := HR.out 63 (by decide)
    have c4 : w.cell? ⟨0, 64, none⟩ = some (.bool false) := HR.out 64 (by decide)
    go_enter Tryd.func36, Tryd.ntmps36
    go_wp2
    refine bodyPost_ret (v := .tuple #[.agg #[.string ⟨#[109, 101, 114, 103, 101]⟩, .bool true, .bool false, .bool false, .bool false], .bool true]) (by simp [results, Tryd.results36, go_sem]) rfl ⟨rfl, ?_⟩
    exact (Below.refl _ w).alloc (Nat.le_refl _) _
end Gr
end Go.Proofs.YtepfkfhbkbkepaaDoor
