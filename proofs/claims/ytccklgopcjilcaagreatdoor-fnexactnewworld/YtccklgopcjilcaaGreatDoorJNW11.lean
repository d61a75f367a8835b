/- Laid together: ImT, PiA, Card2. -/
import Derived.Test.YtccklgopcjilcaaGreatDoorJNW10
import Derived.Test.YtccklgopcjilcaaGreatDoorJNW6
import Derived.Deep.QuietTactic
import Derived.BigQuiet
import Derived.Test.YtccklgopcjilcaaGreatDoorCards
import Derived.Test.YtccklgopcjilcaaGreatDoorTie
import Derived.ShutString
import Derived.ChangeOld
import Derived.Below
import Derived.OpenVars
import Derived.Deep.DeepHandedRow
import Derived.Lib.LaidTab
/- The program's types of terms: termType, hasType, pairTypes, TypeOf. -/
namespace Go.Proofs.YtccklgopcjilcaaGreatDoor
open Go.RowKit
set_option linter.unusedVariables false
namespace Ex
open Nd (NodeD)
set_option maxRecDepth 100000 in
set_option maxHeartbeats 1000000 in
theorem implPairTypes (k : Int) (w : World) (h1 : 3 ≤ k) (h2 : k ≤ 9) : Calls Tryz.prog 264 #[.int .i64 k] w fun e w' => e = .returned (.tuple #[.int .i64 (pairAsk k), .int .i64 (pairOwn k)]) ∧ w' = w := by
  have hkk : k = 3 ∨ k = 4 ∨ k = 5 ∨ k = 6 ∨ k = 7 ∨ k = 8 ∨ k = 9 := by omega
  clear h1 h2
  rcases hkk with rfl | rfl | rfl | rfl | rfl | rfl | rfl
  · go_enter Tryz.func264, Tryz.ntmps264
    go_wp2
    go_ret2
    exact ⟨rfl, rfl⟩
  · go_enter Tryz.func264, Tryz.ntmps264
    go_wp2
    go_ret2
    exact ⟨rfl, rfl⟩
  · go_enter Tryz.func264, Tryz.ntmps264
    go_wp2
    go_ret2
    exact ⟨rfl, rfl⟩
  · go_enter Tryz.func264, Tryz.ntmps264
    go_wp2
    go_ret2
    exact ⟨rfl, rfl⟩
  · go_enter Tryz.func264, Tryz.ntmps264
    go_wp2
    go_ret2
    exact ⟨rfl, rfl⟩
  · go_enter Tryz.func264, Tryz.ntmps264
    go_wp2
    go_ret2
    exact ⟨rfl, rfl⟩
  · go_enter Tryz.func264, Tryz.ntmps264
    go_wp2
    go_ret2
    exact ⟨rfl, rfl⟩
def tyIs (t : Tm) (a : Int) : Bool := t.fit && (t.ty == a)
set_option maxRecDepth 100000 in
set_option maxHeartbeats 1000000 in
theorem implHasType (t : Tm) (a : Int) (w : World) (H : Calls Tryz.prog 257 #[t.val] w fun e w' => e = .returned (.tuple #[.int .i64 t.ty, .bool t.fit]) ∧ Below w.heap.size w w') :
    Calls Tryz.prog 263 #[t.val, .int .i64 a] w fun e w' => e = .returned (.bool (tyIs t a)) ∧ Below w.heap.size w w' := by
  have HT := hid H
  have HD : Hid (tyIs t a = (t.fit && (t.ty == a))) := hid rfl
  obtain ⟨ty1, v1, hv1⟩ := t.val_if
  rw [hv1] at HT ⊢
  clear H hv1
  generalize t.ty = y at *
  go_enter Tryz.func263, Tryz.ntmps263
  go_wp2_with fail
  refine HT.out.mono ?_
  rintro e w1 ⟨rfl, hb1⟩
  cases hf : t.fit
  · rw [hf] at HD
    go_wp2
    go_ret
    exact ⟨by rw [HD.out]; rfl, hb1⟩
  · rw [hf] at HD
    cases he : (y == a)
    · rw [he] at HD
      go_wp2
      go_ret
      exact ⟨by rw [HD.out]; rfl, hb1⟩
    · rw [he] at HD
      go_wp2
      go_ret
      exact ⟨by rw [HD.out]; rfl, hb1⟩
set_option maxRecDepth 100000 in
set_option maxHeartbeats 4000000 in
theorem implTermType : ∀ (t : Tm) (w : World), t.ok → Calls Tryz.prog 257 #[t.val] w fun e w' => e = .returned (.tuple #[.int .i64 t.ty, .bool t.fit]) ∧ Below w.heap.size w w'
  | ⟨[], false, n⟩, w, hok => by
    have a1 := asCC
    have a2 := asCV
    change Calls Tryz.prog 257 #[.iface 338 (.int .i64 n)] w fun e w' => e = .returned (.tuple #[.int .i64 1, .bool true]) ∧ Below w.heap.size w w'
    go_enter Tryz.func257, Tryz.ntmps257
    go_wp2
    go_ret2
    exact ⟨rfl, Below.refl _ _⟩
  | ⟨[], true, n⟩, w, hok => by
    have a1 := asVC
    have a2 := asVV
    change Calls Tryz.prog 257 #[.iface 339 (.int .i64 n)] w fun e w' => e = .returned (.tuple #[.int .i64 1, .bool true]) ∧ Below w.heap.size w w'
    go_enter Tryz.func257, Tryz.ntmps257
    go_wp2
    go_ret2
    exact ⟨rfl, Below.refl _ _⟩
  | ⟨[t], _, _⟩, w, hok => by
    obtain ⟨hok, rfl, rfl⟩ := hok
    have a1 := asNC
    have a2 := asNV
    have a3 := asNN
    have IH := hid (fun w => implHasType t 2 w (implTermType t w hok))
    change Calls Tryz.prog 257 #[.iface 342 (.agg #[t.val])] w fun e w' => e = .returned (.tuple #[.int .i64 2, .bool (tyIs t 2)]) ∧ Below w.heap.size w w'
    have HB : Hid (Below w.heap.size w (w.alloc (.cells #[t.val] 342))) := hid ((Below.refl _ w).alloc (Nat.le_refl _) _)
    obtain ⟨ty1, v1, hv1⟩ := t.val_if
    rw [hv1] at IH HB ⊢
    clear hv1 hok
    generalize tyIs t 2 = ti at *
    go_enter Tryz.func257, Tryz.ntmps257
    go_wp2_with fail
    refine (IH.out _).mono ?_
    rintro e w1 ⟨rfl, hb1⟩
    go_wp2
    go_ret2
    exact ⟨rfl, HB.out.trans (hb1.mono HB.out.size)⟩
  | ⟨l :: r :: _, _, k⟩, w, hok => by
    obtain ⟨hok, rfl, rfl⟩ := hok
    have a1 := asPC
    have a2 := asPV
    have a3 := asPN
    have a4 := asPP
    have IHL := hid (fun a w => implHasType l a w (implTermType l w hok.2.2.1))
    have IHR := hid (fun a w => implHasType r a w (implTermType r w hok.2.2.2))
    have HPT := hid (fun w => implPairTypes k w hok.1 hok.2.1)
    change Calls Tryz.prog 257 #[.iface 344 (.agg #[.int .i64 k, l.val, r.val])] w fun e w' => e = .returned (.tuple #[.int .i64 (pairOwn k), .bool (tyIs l (pairAsk k) && tyIs r (pairAsk k))]) ∧ Below w.heap.size w w'
    have HB : Hid (Below w.heap.size w (w.alloc (.cells #[.int .i64 k, l.val, r.val] 344))) := hid ((Below.refl _ w).alloc (Nat.le_refl _) _)
    obtain ⟨ty1, v1, hv1⟩ := l.val_if
    obtain ⟨ty2, v2, hv2⟩ := r.val_if
    rw [hv1] at IHL HB ⊢
    rw [hv2] at IHR HB ⊢
    clear hv1 hv2 hok
    generalize pairAsk k = ask at *
    generalize pairOwn k = own at *
    go_enter Tryz.func257, Tryz.ntmps257
    go_wp2_with (first
      | (go_at_call 264; refine (HPT.out _).mono ?_; rintro e w1 ⟨rfl, rfl⟩))
    refine (IHL.out ask _).mono ?_
    rintro e w1 ⟨rfl, hb1⟩
    have B1 := HB.out.trans (hb1.mono HB.out.size)
    have u2 := kept_cell hb1 (b := w.heap.size) (o := 2) (v := .iface ty2 v2) (by simp) (by go_simp)
    cases h1 : tyIs l ask
    · go_wp2
      go_ret2
      exact ⟨by rw [h1]; rfl, B1⟩
    · go_wp2_with fail
      refine (IHR.out ask _).mono ?_
      rintro e w2 ⟨rfl, hb2⟩
      go_wp2
      go_ret2
      exact ⟨by rw [h1]; rfl, B1.trans (hb2.mono B1.size)⟩
set_option maxRecDepth 100000 in
set_option maxHeartbeats 2000000 in
theorem implTypeOf (B : Nat) (ns : List NodeD) (v : Value) (w : World) (hl : ns.length ≤ 1048576) (ha : Nd.At w B v ns) :
    Calls Tryz.prog 236 #[v] w fun e w' => e = .returned (.agg #[.int .i64 (typeCode ns), .int .i64 (typeVal ns)]) ∧ Below w.heap.size w w' := by
  obtain ⟨a, cap, rfl⟩ := ha.slice
  have hb0 : Below w.heap.size w (w.alloc (.cells #[.int .i64 0, .int .i64 0] 306)) := (Below.refl _ w).alloc (Nat.le_refl _) _
  have HF := hid (implTop B ns _ (w.alloc (.cells #[.int .i64 0, .int .i64 0] 306)) hl (ha.below hb0))
  clear ha
  go_enter Tryz.func236, Tryz.ntmps236
  go_wp2_with fail
  refine HF.out.mono ?_
  rintro e w1 ⟨h1, hb1⟩
  have B1 : Below w.heap.size w w1 := hb0.trans (hb1.mono (by simp))
  simp only [World.size_alloc] at hb1
  have l1 : w.heap.size < w1.heap.size := by have := hb1.size; simp at this; omega
  have r0 := kept_cell hb1 (b := w.heap.size) (o := 0) (v := .int .i64 0) (by omega) (by go_simp)
  have r1 := kept_cell hb1 (b := w.heap.size) (o := 1) (v := .int .i64 0) (by omega) (by go_simp)
  have f0 := kept_free hb1 (b := w.heap.size) (o := 0) (by omega) (by go_simp)
  have f1 := kept_free hb1 (b := w.heap.size) (o := 1) (by omega) (by go_simp)
  rcases h1 with ⟨t, h0, h1, rfl⟩ | ⟨h0, rfl⟩
  · have HT := hid (implTermType t w1 (top_nodes h0 h1).2.1)
    obtain ⟨g1, g2⟩ := top_fit h0 h1
    have HTB := hid (fun h => ty_bad h0 (g1.symm.trans h))
    have HTO := hid (fun h => ty_ok h0 (g1.symm.trans h))
    have HTY := hid g2
    obtain ⟨ty1, v1, hv1⟩ := t.val_if
    rw [hv1] at HT ⊢
    clear hv1 h0 h1 g1 g2 HF
    generalize t.ty = tty at *
    go_wp2_with fail
    refine HT.out.mono ?_
    rintro e w2 ⟨rfl, hb2⟩
    have B2 := B1.trans (hb2.mono B1.size)
    have u0 := kept_cell hb2 l1 r0
    have u1 := kept_cell hb2 l1 r1
    have x0 := kept_free hb2 l1 f0
    have x1 := kept_free hb2 l1 f1
    have l2 : w.heap.size < w2.heap.size := by have := hb2.size; omega
    cases hfit : t.fit
    · have HV := hid (HTB.out hfit)
      clear hfit
      go_wp2
      exact bodyPost_ret (v := .agg #[.int .i64 7, .int .i64 0]) (by simp [results, Tryz.results236, go_sem, u0, u1]) rfl ⟨ret_two HV.out.1.symm HV.out.2.symm, setB (setB B2 (Nat.le_refl _) _) (Nat.le_refl _) _⟩
    · have HV := hid (HTO.out hfit)
      clear hfit
      go_wp2
      exact bodyPost_ret (v := .agg #[.int .i64 0, .int .i64 tty]) (by simp [results, Tryz.results236, go_sem, u0, u1]) rfl ⟨ret_two HV.out.1.symm (HTY.out.trans HV.out.2.symm), setB (setB B2 (Nat.le_refl _) _) (Nat.le_refl _) _⟩
  · have HV := hid (ty_fault h0)
    have b1 : (eFault ns != 0) = true := by simpa using h0
    clear h0 HF
    generalize eFault ns = ef at *
    go_wp2
    exact bodyPost_ret (v := .agg #[.int .i64 ef, .int .i64 0]) (by simp [results, Tryz.results236, go_sem, r0, r1]) rfl ⟨ret_two HV.out.1.symm HV.out.2.symm, setB (setB B1 (Nat.le_refl _) _) (Nat.le_refl _) _⟩
end Ex
end Go.Proofs.YtccklgopcjilcaaGreatDoor
/- The program's table of rules, and what is asked of a step by it. Condition of what reads the table: it lies as its initialiser lays it. -/
namespace Go.Proofs.YtccklgopcjilcaaGreatDoor
open Go.RowKit
set_option linter.unusedVariables false
namespace Pf
open Ex (hid inR eFault typeCode typeVal)
open Nd (NodeD)
open St (StepD)
open Tr (nf)
structure RuleD where
  word : ByteArray
  hn : Bool
  he : Bool
  la : Int
  ma : Int
  lk : Int
  mx : Int
def RuleD.row (r : RuleD) : Array Value := #[.string r.word, .bool r.hn, .bool r.he, .int .i64 r.la, .int .i64 r.ma, .int .i64 r.lk, .int .i64 r.mx]
def ruleVals : List Value := [.string ⟨#[115, 101, 113]⟩, .bool false, .bool false, .int .i64 0, .int .i64 0, .int .i64 1, .int .i64 24, .string ⟨#[116, 97, 115, 107]⟩, .bool true, .bool false, .int .i64 0, .int .i64 0, .int .i64 0, .int .i64 0, .string ⟨#[120, 111, 114]⟩, .bool false, .bool false, .int .i64 0, .int .i64 0, .int .i64 2, .int .i64 24, .string ⟨#[97, 110, 100]⟩, .bool false, .bool false, .int .i64 0, .int .i64 0, .int .i64 2, .int .i64 24, .string ⟨#[119, 97, 105, 116]⟩, .bool false, .bool false, .int .i64 0, .int .i64 9, .int .i64 0, .int .i64 0, .string ⟨#[116, 105, 109, 101, 114]⟩, .bool false, .bool false, .int .i64 1, .int .i64 99, .int .i64 0, .int .i64 0, .string ⟨#[115, 101, 116]⟩, .bool false, .bool true, .int .i64 0, .int .i64 3, .int .i64 0, .int .i64 0, .string ⟨#[103, 117, 97, 114, 100]⟩, .bool false, .bool false, .int .i64 1, .int .i64 99, .int .i64 2, .int .i64 2]
/-- The table of rules lies as its initialiser lays it. -/
def Rul (w : World) : Prop := ∀ i : Nat, i < 56 → w.cell? ⟨0, i, none⟩ = ruleVals[i]?
theorem Rul.below {w w' : World} {B : Nat} (he : Rul w) (h : Below B w w') (hB : 0 < B) : Rul w' := fun i hi => (h.cell (p := ⟨0, i, none⟩) hB).trans (he i hi)
theorem Rul.lt {w : World} (h : Rul w) : 0 < w.heap.size := Nd.lt_of_cell (v := .string ⟨#[115, 101, 113]⟩) (h 0 (by decide))
def ruleD (k : Int) : RuleD := if k = 1 then ⟨⟨#[115, 101, 113]⟩, false, false, 0, 0, 1, 24⟩ else if k = 2 then ⟨⟨#[116, 97, 115, 107]⟩, true, false, 0, 0, 0, 0⟩ else if k = 3 then ⟨⟨#[120, 111, 114]⟩, false, false, 0, 0, 2, 24⟩ else if k = 4 then ⟨⟨#[97, 110, 100]⟩, false, false, 0, 0, 2, 24⟩ else if k = 5 then ⟨⟨#[119, 97, 105, 116]⟩, false, false, 0, 9, 0, 0⟩ else if k = 6 then ⟨⟨#[116, 105, 109, 101, 114]⟩, false, false, 1, 99, 0, 0⟩ else if k = 7 then ⟨⟨#[115, 101, 116]⟩, false, true, 0, 3, 0, 0⟩ else if k = 8 then ⟨⟨#[103, 117, 97, 114, 100]⟩, false, false, 1, 99, 2, 2⟩ else ⟨⟨#[]⟩, false, false, 0, 0, 0, 0⟩
theorem rule1 : ruleD 1 = ⟨⟨#[115, 101, 113]⟩, false, false, 0, 0, 1, 24⟩ := rfl
theorem rule2 : ruleD 2 = ⟨⟨#[116, 97, 115, 107]⟩, true, false, 0, 0, 0, 0⟩ := rfl
theorem rule3 : ruleD 3 = ⟨⟨#[120, 111, 114]⟩, false, false, 0, 0, 2, 24⟩ := rfl
theorem rule4 : ruleD 4 = ⟨⟨#[97, 110, 100]⟩, false, false, 0, 0, 2, 24⟩ := rfl
theorem rule5 : ruleD 5 = ⟨⟨#[119, 97, 105, 116]⟩, false, false, 0, 9, 0, 0⟩ := rfl
theorem rule6 : ruleD 6 = ⟨⟨#[116, 105, 109, 101, 114]⟩, false, false, 1, 99, 0, 0⟩ := rfl
theorem rule7 : ruleD 7 = ⟨⟨#[115, 101, 116]⟩, false, true, 0, 3, 0, 0⟩ := rfl
theorem rule8 : ruleD 8 = ⟨⟨#[103, 117, 97, 114, 100]⟩, false, false, 1, 99, 2, 2⟩ := rfl
theorem setB {B : Nat} {W w : World} (h : Below B W w) {b o : Nat} (hb : B ≤ b) (x : Value) : Below B W (w.setCell ⟨b, o, none⟩ x) := h.setCell hb x
theorem kinds {k : Int} (h : inR k 1 8 = true) : k = 1 ∨ k = 2 ∨ k = 3 ∨ k = 4 ∨ k = 5 ∨ k = 6 ∨ k = 7 ∨ k = 8 := by
  have := Ex.inR_iff.1 h
  omega
set_option maxRecDepth 100000 in
set_option maxHeartbeats 4000000 in
theorem ruleBad (k : Int) (w : World) (hb : inR k 1 8 = false) (hr : Rul w) :
    Calls Tryz.prog 191 #[.int .i64 k] w fun e w' => e = .returned (.tuple #[.agg #[.string ⟨#[]⟩, .bool false, .bool false, .int .i64 0, .int .i64 0, .int .i64 0, .int .i64 0], .bool false]) ∧ Below w.heap.size w w' := by
  have hb' := Ex.inR_not.1 hb
  clear hr
  by_cases h1 : k < 1
  · go_enter Tryz.func191, Tryz.ntmps191
    go_wp2
    exact bodyPost_ret (v := .tuple #[.agg #[.string ⟨#[]⟩, .bool false, .bool false, .int .i64 0, .int .i64 0, .int .i64 0, .int .i64 0], .bool false]) (by simp [results, Tryz.results191, go_sem]) rfl ⟨rfl, (Below.refl _ w).alloc (Nat.le_refl _) _⟩
  · have h8 : 8 < k := by omega
    go_enter Tryz.func191, Tryz.ntmps191
    go_wp2
    exact bodyPost_ret (v := .tuple #[.agg #[.string ⟨#[]⟩, .bool false, .bool false, .int .i64 0, .int .i64 0, .int .i64 0, .int .i64 0], .bool false]) (by simp [results, Tryz.results191, go_sem]) rfl ⟨rfl, (Below.refl _ w).alloc (Nat.le_refl _) _⟩
set_option maxRecDepth 100000 in
set_option maxHeartbeats 4000000 in
theorem ruleOk (k : Int) (w : World) (hin : inR k 1 8 = true) (hr : Rul w) :
    Calls Tryz.prog 191 #[.int .i64 k] w fun e w' => e = .returned (.tuple #[.agg (ruleD k).row, .bool true]) ∧ Below w.heap.size w w' := by
  have HR := hid hr
  have hlt := hr.lt
  clear hr
  rcases kinds hin with rfl | rfl | rfl | rfl | rfl | rfl | rfl | rfl
  · clear hin
    have c0 : w.cell? ⟨0, 0, none⟩ = some (.string ⟨#[115, 101, 113]⟩) := HR.out 0 (by decide)
    have c1 : w.cell? ⟨0, 1, none⟩ = some (.bool false) := HR.out 1 (by decide)
    have c2 : w.cell? ⟨0, 2, none⟩ = some (.bool false) := HR.out 2 (by decide)
    have c3 : w.cell? ⟨0, 3, none⟩ = some (.int .i64 0) := HR.out 3 (by decide)
    have c4 : w.cell? ⟨0, 4, none⟩ = some (.int .i64 0) := HR.out 4 (by decide)
    have c5 : w.cell? ⟨0, 5, none⟩ = some (.int .i64 1) := HR.out 5 (by decide)
    have c6 : w.cell? ⟨0, 6, none⟩ = some (.int .i64 24) := HR.out 6 (by decide)
    go_enter Tryz.func191, Tryz.ntmps191
    go_wp2
    refine bodyPost_ret (v := .tuple #[.agg #[.string ⟨#[115, 101, 113]⟩, .bool false, .bool false, .int .i64 0, .int .i64 0, .int .i64 1, .int .i64 24], .bool true]) (by simp [results, Tryz.results191, go_sem]) rfl ⟨rfl, ?_⟩
    exact (Below.refl _ w).alloc (Nat.le_refl _) _
  · clear hin
    have c0 : w.cell? ⟨0, 7, none⟩ = some (.string ⟨#[116, 97, 115, 107]⟩) := HR.out 7 (by decide)
    have c1 : w.cell? ⟨0, 8, none⟩ = some (.bool true) := HR.out 8 (by decide)
    have c2 : w.cell? ⟨0, 9, none⟩ = some (.bool false) := HR.out 9 (by decide)
    have c3 : w.cell? ⟨0, 10, none⟩ = some (.int .i64 0) := HR.out 10 (by decide)
    have c4 : w.cell? ⟨0, 11, none⟩ = some (.int .i64 0) := HR.out 11 (by decide)
    have c5 : w.cell? ⟨0, 12, none⟩ = some (.int .i64 0) := HR.out 12 (by decide)
    have c6 : w.cell? ⟨0, 13, none⟩ = some (.int .i64 0) := HR.out 13 (by decide)
    go_enter Tryz.func191, Tryz.ntmps191
    go_wp2
    refine bodyPost_ret (v := .tuple #[.agg #[.string ⟨#[116, 97, 115, 107]⟩, .bool true, .bool false, .int .i64 0, .int .i64 0, .int .i64 0, .int .i64 0], .bool true]) (by simp [results, Tryz.results191, go_sem]) rfl ⟨rfl, ?_⟩
    exact (Below.refl _ w).alloc (Nat.le_refl _) _
  · clear hin
    have c0 : w.cell? ⟨0, 14, none⟩ = some (.string ⟨#[120, 111, 114]⟩) := HR.out 14 (by decide)
    have c1 : w.cell? ⟨0, 15, none⟩ = some (.bool false) := HR.out 15 (by decide)
    have c2 : w.cell? ⟨0, 16, none⟩ = some (.bool false) := HR.out 16 (by decide)
    have c3 : w.cell? ⟨0, 17, none⟩ = some (.int .i64 0) := HR.out 17 (by decide)
    have c4 : w.cell? ⟨0, 18, none⟩ = some (.int .i64 0) := HR.out 18 (by decide)
    have c5 : w.cell? ⟨0, 19, none⟩ = some (.int .i64 2) := HR.out 19 (by decide)
    have c6 : w.cell? ⟨0, 20, none⟩ = some (.int .i64 24) := HR.out 20 (by decide)
    go_enter Tryz.func191, Tryz.ntmps191
    go_wp2
    refine bodyPost_ret (v := .tuple #[.agg #[.string ⟨#[120, 111, 114]⟩, .bool false, .bool false, .int .i64 0, .int .i64 0, .int .i64 2, .int .i64 24], .bool true]) (by simp [results, Tryz.results191, go_sem]) rfl ⟨rfl, ?_⟩
    exact (Below.refl _ w).alloc (Nat.le_refl _) _
  · clear hin
    have c0 : w.cell? ⟨0, 21, none⟩ = some (.string ⟨#[97, 110, 100]⟩) := HR.out 21 (by decide)
    have c1 : w.cell? ⟨0, 22, none⟩ = some (.bool false) := HR.out 22 (by decide)
    have c2 : w.cell? ⟨0, 23, none⟩ = some (.bool false) := HR.out 23 (by decide)
    have c3 : w.cell? ⟨0, 24, none⟩ = some (.int .i64 0) := HR.out 24 (by decide)
    have c4 : w.cell? ⟨0, 25, none⟩ = some (.int .i64 0) := HR.out 25 (by decide)
    have c5 : w.cell? ⟨0, 26, none⟩ = some (.int .i64 2) := HR.out 26 (by decide)
    have c6 : w.cell? ⟨0, 27, none⟩ = some (.int .i64 24) := HR.out 27 (by decide)
    go_enter Tryz.func191, Tryz.ntmps191
    go_wp2
    refine bodyPost_ret (v := .tuple #[.agg #[.string ⟨#[97, 110, 100]⟩, .bool false, .bool false, .int .i64 0, .int .i64 0, .int .i64 2, .int .i64 24], .bool true]) (by simp [results, Tryz.results191, go_sem]) rfl ⟨rfl, ?_⟩
    exact (Below.refl _ w).alloc (Nat.le_refl _) _
  · clear hin
    have c0 : w.cell? ⟨0, 28, none⟩ = some (.string ⟨#[119, 97, 105, 116]⟩) := HR.out 28 (by decide)
    have c1 : w.cell? ⟨0, 29, none⟩ = some (.bool false) := HR.out 29 (by decide)
    have c2 : w.cell? ⟨0, 30, none⟩ = some (.bool false) := HR.out 30 (by decide)
    have c3 : w.cell? ⟨0, 31, none⟩ = some (.int .i64 0) := HR.out 31 (by decide)
    have c4 : w.cell? ⟨0, 32, none⟩ = some (.int .i64 9) := HR.out 32 (by decide)
    have c5 : w.cell? ⟨0, 33, none⟩ = some (.int .i64 0) := HR.out 33 (by decide)
    have c6 : w.cell? ⟨0, 34, none⟩ = some (.int .i64 0) := HR.out 34 (by decide)
    go_enter Tryz.func191, Tryz.ntmps191
    go_wp2
    refine bodyPost_ret (v := .tuple #[.agg #[.string ⟨#[119, 97, 105, 116]⟩, .bool false, .bool false, .int .i64 0, .int .i64 9, .int .i64 0, .int .i64 0], .bool true]) (by simp [results, Tryz.results191, go_sem]) rfl ⟨rfl, ?_⟩
    exact (Below.refl _ w).alloc (Nat.le_refl _) _
  · clear hin
    have c0 : w.cell? ⟨0, 35, none⟩ = some (.string ⟨#[116, 105, 109, 101, 114]⟩) := HR.out 35 (by decide)
    have c1 : w.cell? ⟨0, 36, none⟩ = some (.bool false) := HR.out 36 (by decide)
    have c2 : w.cell? ⟨0, 37, none⟩ = some (.bool false) := HR.out 37 (by decide)
    have c3 : w.cell? ⟨0, 38, none⟩ = some (.int .i64 1) := HR.out 38 (by decide)
    have c4 : w.cell? ⟨0, 39, none⟩ = some (.int .i64 99) := HR.out 39 (by decide)
    have c5 : w.cell? ⟨0, 40, none⟩ = some (.int .i64 0) := HR.out 40 (by decide)
    have c6 : w.cell? ⟨0, 41, none⟩ = some (.int .i64 0) := HR.out 41 (by decide)
    go_enter Tryz.func191, Tryz.ntmps191
    go_wp2
    refine bodyPost_ret (v := .tuple #[.agg #[.string ⟨#[116, 105, 109, 101, 114]⟩, .bool false, .bool false, .int .i64 1, .int .i64 99, .int .i64 0, .int .i64 0], .bool true]) (by simp [results, Tryz.results191, go_sem]) rfl ⟨rfl, ?_⟩
    exact (Below.refl _ w).alloc (Nat.le_refl _) _
  · clear hin
    have c0 : w.cell? ⟨0, 42, none⟩ = some (.string ⟨#[115, 101, 116]⟩) := HR.out 42 (by decide)
    have c1 : w.cell? ⟨0, 43, none⟩ = some (.bool false) := HR.out 43 (by decide)
    have c2 : w.cell? ⟨0, 44, none⟩ = some (.bool true) := HR.out 44 (by decide)
    have c3 : w.cell? ⟨0, 45, none⟩ = some (.int .i64 0) := HR.out 45 (by decide)
    have c4 : w.cell? ⟨0, 46, none⟩ = some (.int .i64 3) := HR.out 46 (by decide)
    have c5 : w.cell? ⟨0, 47, none⟩ = some (.int .i64 0) := HR.out 47 (by decide)
    have c6 : w.cell? ⟨0, 48, none⟩ = some (.int .i64 0) := HR.out 48 (by decide)
    go_enter Tryz.func191, Tryz.ntmps191
    go_wp2
    refine bodyPost_ret (v := .tuple #[.agg #[.string ⟨#[115, 101, 116]⟩, .bool false, .bool true, .int .i64 0, .int .i64 3, .int .i64 0, .int .i64 0], .bool true]) (by simp [results, Tryz.results191, go_sem]) rfl ⟨rfl, ?_⟩
    exact (Below.refl _ w).alloc (Nat.le_refl _) _
  · clear hin
    have c0 : w.cell? ⟨0, 49, none⟩ = some (.string ⟨#[103, 117, 97, 114, 100]⟩) := HR.out 49 (by decide)
    have c1 : w.cell? ⟨0, 50, none⟩ = some (.bool false) := HR.out 50 (by decide)
    have c2 : w.cell? ⟨0, 51, none⟩ = some (.bool false) := HR.out 51 (by decide)
    have c3 : w.cell? ⟨0, 52, none⟩ = some (.int .i64 1) := HR.out 52 (by decide)
    have c4 : w.cell? ⟨0, 53, none⟩ = some (.int .i64 99) := HR.out 53 (by decide)
    have c5 : w.cell? ⟨0, 54, none⟩ = some (.int .i64 2) := HR.out 54 (by decide)
    have c6 : w.cell? ⟨0, 55, none⟩ = some (.int .i64 2) := HR.out 55 (by decide)
    go_enter Tryz.func191, Tryz.ntmps191
    go_wp2
    refine bodyPost_ret (v := .tuple #[.agg #[.string ⟨#[103, 117, 97, 114, 100]⟩, .bool false, .bool false, .int .i64 1, .int .i64 99, .int .i64 2, .int .i64 2], .bool true]) (by simp [results, Tryz.results191, go_sem]) rfl ⟨rfl, ?_⟩
    exact (Below.refl _ w).alloc (Nat.le_refl _) _
end Pf
end Go.Proofs.YtccklgopcjilcaaGreatDoor
/- From a row's list to the cells of the table of rules; a world that holds the table. -/
namespace Go.Proofs.YtccklgopcjilcaaGreatDoor
open Go.ChangeShapes Go.WideShapes Go.ChangeAt Go.RowKit
set_option linter.unusedVariables false
namespace Crd
open Pf (Rul ruleVals)
theorem own : ownKnob Tryz.prog.godebug = none := by kernel_rfl
theorem laidOut : laidOutB Tryz.prog = true := by kernel_rfl
theorem gTab : Tryz.prog.globalNamed "loop.example/g00343/impl.stepRules" = some 0 := by kernel_rfl
theorem gTabType : (Tryz.prog.globals[0]?).map (·.type) = some 299 := by kernel_rfl
theorem cellsTA : Tryz.prog.cellsOf 299 = 56 := by kernel_rfl
theorem cellsTE : Tryz.prog.cellsOf 255 = 7 := by kernel_rfl
theorem cells9 : Tryz.prog.cellsOf 9 = 1 := by kernel_rfl
theorem cells2 : Tryz.prog.cellsOf 2 = 1 := by kernel_rfl
theorem cells3 : Tryz.prog.cellsOf 3 = 1 := by kernel_rfl
theorem cells4 : Tryz.prog.cellsOf 4 = 1 := by kernel_rfl
set_option maxRecDepth 100000 in
/-- One row of the table: its seven cells. -/
theorem rule {H : Type} {enc : TypeId × Value → H} {w : World} {base : Nat} {sp : Nat → Bool} {held : Bool} {fuel : Nat} {cs : List Value} {l : List UInt8} {b1 b2 : Bool} {z3 z4 z5 z6 : Int} {p : List MemPlace}
    (h : DataW.trod enc Tryz.prog w base sp held fuel 255 cs = some (.agg [.lit (.string l), .lit (.bool b1), .lit (.bool b2), .lit (.int .i64 z3), .lit (.int .i64 z4), .lit (.int .i64 z5), .lit (.int .i64 z6)], p)) :
    cs = [.string ⟨l.toArray⟩, .bool b1, .bool b2, .int .i64 z3, .int .i64 z4, .int .i64 z5, .int .i64 z6] := by
  obtain ⟨xs, n, rfl, hx, hlen, hxl, hf⟩ := DataW.trod_struct Tryz.underlying255 h
  have h0 := hf 0 _ rfl
  have h1 := hf 1 _ rfl
  have h2 := hf 2 _ rfl
  have h3 := hf 3 _ rfl
  have h4 := hf 4 _ rfl
  have h5 := hf 5 _ rfl
  have h6 := hf 6 _ rfl
  rw [cellsTE] at hlen
  match cs, hlen with
  | [c0, c1, c2, c3, c4, c5, c6], _ =>
    match xs, hxl with
    | [x0, x1, x2, x3, x4, x5, x6], _ =>
      simp at h0 h1 h2 h3 h4 h5 h6 hx
      obtain ⟨s0, e0, f0, _⟩ := DataW.trod_string Tryz.underlying9 h0
      obtain ⟨d1, e1, f1⟩ := DataW.trod_bool Tryz.underlying4 h1
      obtain ⟨d2, e2, f2⟩ := DataW.trod_bool Tryz.underlying4 h2
      obtain ⟨n3, e3, f3, _⟩ := DataW.trod_int Tryz.underlying2 h3
      obtain ⟨n4, e4, f4, _⟩ := DataW.trod_int Tryz.underlying2 h4
      obtain ⟨n5, e5, f5, _⟩ := DataW.trod_int Tryz.underlying3 h5
      obtain ⟨n6, e6, f6, _⟩ := DataW.trod_int Tryz.underlying3 h6
      subst f0 f1 f2 f3 f4 f5 f6
      rw [cells9] at e0
      rw [cells4] at e1 e2
      rw [cells2] at e3 e4
      rw [cells3] at e5 e6
      simp at e0 e1 e2 e3 e4 e5 e6 hx
      obtain ⟨⟨g0, g1, g2, g3, g4, g5, g6⟩, _⟩ := hx
      subst e0 e1 e2 e3 e4 e5 e6 g1 g2 g3 g4 g5 g6
      rw [g0]
set_option maxRecDepth 100000 in
theorem var_tab {W : World} (h : laidMetH Tryz.prog [("loop.example/g00343/impl.stepRules", Rows.laid_loop_example_g00343_impl_stepRules)] W) : ∃ cs, W.var? Tryz.prog "loop.example/g00343/impl.stepRules" = some cs ∧ cs.toList = ruleVals := by
  obtain ⟨ps, ⟨g', t', cs, fuel, p, q, hg', ht', hvar, hd, _, _⟩, _⟩ := h
  obtain rfl := Option.some.inj (gTab.symm.trans hg')
  obtain rfl := Option.some.inj (gTabType.symm.trans ht')
  refine ⟨cs, hvar, ?_⟩
  obtain ⟨xs, m, rfl, hx, hlen, hxl, hf⟩ := DataW.trod_array Tryz.underlying299 hd
  have f0 := hf 0 (by decide)
  have f1 := hf 1 (by decide)
  have f2 := hf 2 (by decide)
  have f3 := hf 3 (by decide)
  have f4 := hf 4 (by decide)
  have f5 := hf 5 (by decide)
  have f6 := hf 6 (by decide)
  have f7 := hf 7 (by decide)
  rw [cellsTE] at f0 f1 f2 f3 f4 f5 f6 f7
  rw [cellsTA] at hlen
  match xs, hxl with
  | [x0, x1, x2, x3, x4, x5, x6, x7], _ =>
    obtain ⟨d0, p0⟩ := x0
    obtain ⟨d1, p1⟩ := x1
    obtain ⟨d2, p2⟩ := x2
    obtain ⟨d3, p3⟩ := x3
    obtain ⟨d4, p4⟩ := x4
    obtain ⟨d5, p5⟩ := x5
    obtain ⟨d6, p6⟩ := x6
    obtain ⟨d7, p7⟩ := x7
    simp only [Rows.laid_loop_example_g00343_impl_stepRules, List.map_cons, List.map_nil, Prod.mk.injEq, DataW.agg.injEq, List.cons.injEq, and_true] at hx
    obtain ⟨⟨rfl, rfl, rfl, rfl, rfl, rfl, rfl, rfl⟩, _⟩ := hx
    generalize cs.toList = l at *
    have g0 := rule f0
    have g1 := rule f1
    have g2 := rule f2
    have g3 := rule f3
    have g4 := rule f4
    have g5 := rule f5
    have g6 := rule f6
    have g7 := rule f7
    have cut : ∀ n, l.drop n = (l.drop n).take 7 ++ l.drop (n + 7) := fun n => by
      have h := (List.take_append_drop 7 (l.drop n)).symm
      rw [List.drop_drop] at h
      exact h
    have h56 : l.drop 56 = [] := List.drop_eq_nil_of_le (by omega)
    have hl : l = (l.drop 0).take 7 ++ ((l.drop 7).take 7 ++ ((l.drop 14).take 7 ++ ((l.drop 21).take 7 ++ ((l.drop 28).take 7 ++ ((l.drop 35).take 7 ++ ((l.drop 42).take 7 ++ ((l.drop 49).take 7))))))) := (cut 0).trans (congrArg (fun x => (l.drop 0).take 7 ++ x) ((cut 7).trans (congrArg (fun x => (l.drop 7).take 7 ++ x) ((cut 14).trans (congrArg (fun x => (l.drop 14).take 7 ++ x) ((cut 21).trans (congrArg (fun x => (l.drop 21).take 7 ++ x) ((cut 28).trans (congrArg (fun x => (l.drop 28).take 7 ++ x) ((cut 35).trans (congrArg (fun x => (l.drop 35).take 7 ++ x) ((cut 42).trans (congrArg (fun x => (l.drop 42).take 7 ++ x) ((cut 49).trans (by rw [h56, List.append_nil])))))))))))))))
    rw [hl]
    simp only [Nat.reduceMul] at g0 g1 g2 g3 g4 g5 g6 g7
    rw [g0, g1, g2, g3, g4, g5, g6, g7]
    rfl
set_option maxRecDepth 100000 in
theorem rul_of {W : World} (h : laidMetH Tryz.prog [("loop.example/g00343/impl.stepRules", Rows.laid_loop_example_g00343_impl_stepRules)] W) : Rul W := by
  obtain ⟨cs, hv, hcs⟩ := var_tab h
  intro i hi
  rw [World.var?_cell gTab hv i, ← hcs]
  simp
/-- A world for the witness: the settled one, the table holding what its initialiser lays. -/
def laidHeap (h : Array Obj) : Array Obj := h.modify 0 fun
  | .cells _ t frozen => .cells ruleVals.toArray t frozen
  | o => o
def laidOver (w : World) : World := { w with heap := laidHeap w.heap }
end Crd
end Go.Proofs.YtccklgopcjilcaaGreatDoor
