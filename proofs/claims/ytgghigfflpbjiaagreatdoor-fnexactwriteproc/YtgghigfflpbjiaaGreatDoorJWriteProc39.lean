/- The program's TreeOf. -/
import Derived.Test.YtgghigfflpbjiaaGreatDoorJWriteProc13
import Derived.Test.YtgghigfflpbjiaaGreatDoorJWriteProc14
import Derived.Test.YtgghigfflpbjiaaGreatDoorJWriteProc35
import Derived.Test.YtgghigfflpbjiaaGreatDoorJWriteProc16
import Derived.Test.YtgghigfflpbjiaaGreatDoorJWriteProc9
import Derived.Test.YtgghigfflpbjiaaGreatDoorJWriteProc19
namespace Go.Proofs.YtgghigfflpbjiaaGreatDoor
open Go.RowKit
set_option linter.unusedVariables false
namespace Tf
open Ex (hid inR eFault str str_size textOf implExprText)
open Nd (NodeD)
open St (StepD)
open Tr (AttrD ElemD AttrsAt ElemsAt fault)
open Pf
open Nst (own)
open Go.Lib (decDigits)
/-- Texts in a row, in a block of that range. -/
def SsAt (w : World) (B C : Nat) (v : Value) (l : List ByteArray) : Prop := ∃ a cap, v = .slice a l.length cap ∧ ∀ i (h : i < l.length), ∃ g o, a = some ⟨g, o, none⟩ ∧ B ≤ g ∧ g < C ∧ w.cell? ⟨g, o + i, none⟩ = some (.string l[i])
theorem SsAt.slice {w : World} {B C : Nat} {v : Value} {l : List ByteArray} (h : SsAt w B C v l) : ∃ a cap, v = .slice a l.length cap := by obtain ⟨a, cap, rfl, _⟩ := h; exact ⟨a, cap, rfl⟩
theorem SsAt.at {w : World} {B C : Nat} {a : Option Addr} {n cap : Nat} {l : List ByteArray} (h : SsAt w B C (.slice a n cap) l) {i : Nat} (hi : i < l.length) : ∃ g o, a = some ⟨g, o, none⟩ ∧ B ≤ g ∧ g < C ∧ w.cell? ⟨g, o + i, none⟩ = some (.string l[i]) := by
  obtain ⟨a', cap', e, h⟩ := h; cases e; exact h i hi
theorem SsAt.keep {w w' : World} {B C : Nat} {v : Value} {l : List ByteArray} (h : SsAt w B C v l) (hb : ∀ g, B ≤ g → g < C → w'.heap[g]? = w.heap[g]?) : SsAt w' B C v l := by
  obtain ⟨a, cap, rfl, h⟩ := h
  refine ⟨a, cap, rfl, fun i hi => ?_⟩
  obtain ⟨g, o, rfl, hB, hC, hc⟩ := h i hi
  exact ⟨g, o, rfl, hB, hC, by simp only [World.cell?, hb g hB hC] at hc ⊢; exact hc⟩
def namesL (s : StepD) : List ByteArray := (kindA s).map (·.name)
theorem ss_one {w : World} (x : ByteArray) (t : TypeId) : SsAt (w.alloc (.cells #[.string x] t)) w.heap.size (w.alloc (.cells #[.string x] t)).heap.size (.slice (some ⟨w.heap.size, 0, none⟩) 1 1) [x] := by
  refine ⟨_, 1, rfl, fun i hi => ⟨w.heap.size, 0, rfl, Nat.le_refl _, by simp, ?_⟩⟩
  obtain rfl : i = 0 := by simpa using hi
  go_simp
theorem ss_two {w : World} (x y : ByteArray) (t : TypeId) : SsAt (w.alloc (.cells #[.string x, .string y] t)) w.heap.size (w.alloc (.cells #[.string x, .string y] t)).heap.size (.slice (some ⟨w.heap.size, 0, none⟩) 2 2) [x, y] := by
  refine ⟨_, 2, rfl, fun i hi => ⟨w.heap.size, 0, rfl, Nat.le_refl _, by simp, ?_⟩⟩
  match i, hi with
  | 0, _ => go_simp
  | 1, _ => go_simp
theorem ss_nil (w : World) (B C : Nat) (a : Option Addr) (c : Nat) : SsAt w B C (.slice a 0 c) [] := ⟨a, c, rfl, fun i hi => by simp at hi⟩
theorem kind2 {s : StepD} (h : s.kind = 2) : kindA s = [⟨aName, s.name⟩] := by unfold kindA; rw [if_pos h]
theorem kind5 {s : StepD} (h : s.kind = 5) : kindA s = [⟨aMsg, digs s⟩] := by unfold kindA; rw [if_neg (by omega), if_pos h]
theorem kind6 {s : StepD} (h : s.kind = 6 ∨ s.kind = 8) : kindA s = [⟨aTicks, digs s⟩] := by unfold kindA; rw [if_neg (by omega), if_neg (by omega), if_pos h]
theorem kind7 {s : StepD} (h : s.kind = 7) : kindA s = [⟨aVar, digs s⟩, ⟨aTo, str (textOf s.expr)⟩] := by unfold kindA; rw [if_neg (by omega), if_neg (by omega), if_neg (by omega), if_pos h]
theorem kind0 {s : StepD} (h : s.kind = 1 ∨ s.kind = 3 ∨ s.kind = 4) : kindA s = [] := by unfold kindA; rw [if_neg (by omega), if_neg (by omega), if_neg (by omega), if_neg (by omega)]
set_option maxRecDepth 100000 in
set_option maxHeartbeats 2000000 in
theorem implNames (s : StepD) (w : World) (hk : inR s.kind 1 8 = true) :
    Calls Tryz.prog 49 #[.int .i64 s.kind] w fun e w' => ∃ v, e = .returned v ∧ SsAt w' w.heap.size w'.heap.size v (namesL s) ∧ Below w.heap.size w w' := by
  have HB : ∀ o, Hid (Below w.heap.size w (w.alloc o)) := fun o => hid ((Below.refl _ w).alloc (Nat.le_refl _) _)
  rcases kinds hk with k | k | k | k | k | k | k | k
  · have HN : Hid (namesL s = []) := hid (by unfold namesL; rw [kind0 (by omega)]; rfl)
    rw [k]
    clear k hk
    go_enter Tryz.func49, Tryz.ntmps49
    go_wp2
    go_ret
    exact ⟨_, rfl, by rw [HN.out]; exact ss_nil _ _ _ _ _, Below.refl _ _⟩
  · have HN : Hid (namesL s = [aName]) := hid (by unfold namesL; rw [kind2 k]; rfl)
    rw [k]
    clear k hk
    go_enter Tryz.func49, Tryz.ntmps49
    go_wp2
    go_ret
    exact ⟨_, rfl, by rw [HN.out]; exact ss_one _ _, (HB _).out⟩
  · have HN : Hid (namesL s = []) := hid (by unfold namesL; rw [kind0 (by omega)]; rfl)
    rw [k]
    clear k hk
    go_enter Tryz.func49, Tryz.ntmps49
    go_wp2
    go_ret
    exact ⟨_, rfl, by rw [HN.out]; exact ss_nil _ _ _ _ _, Below.refl _ _⟩
  · have HN : Hid (namesL s = []) := hid (by unfold namesL; rw [kind0 (by omega)]; rfl)
    rw [k]
    clear k hk
    go_enter Tryz.func49, Tryz.ntmps49
    go_wp2
    go_ret
    exact ⟨_, rfl, by rw [HN.out]; exact ss_nil _ _ _ _ _, Below.refl _ _⟩
  · have HN : Hid (namesL s = [aMsg]) := hid (by unfold namesL; rw [kind5 k]; rfl)
    rw [k]
    clear k hk
    go_enter Tryz.func49, Tryz.ntmps49
    go_wp2
    go_ret
    exact ⟨_, rfl, by rw [HN.out]; exact ss_one _ _, (HB _).out⟩
  · have HN : Hid (namesL s = [aTicks]) := hid (by unfold namesL; rw [kind6 (by omega)]; rfl)
    rw [k]
    clear k hk
    go_enter Tryz.func49, Tryz.ntmps49
    go_wp2
    go_ret
    exact ⟨_, rfl, by rw [HN.out]; exact ss_one _ _, (HB _).out⟩
  · have HN : Hid (namesL s = [aVar, aTo]) := hid (by unfold namesL; rw [kind7 k]; rfl)
    rw [k]
    clear k hk
    go_enter Tryz.func49, Tryz.ntmps49
    go_wp2
    go_ret
    exact ⟨_, rfl, by rw [HN.out]; exact ss_two _ _ _, (HB _).out⟩
  · have HN : Hid (namesL s = [aTicks]) := hid (by unfold namesL; rw [kind6 (by omega)]; rfl)
    rw [k]
    clear k hk
    go_enter Tryz.func49, Tryz.ntmps49
    go_wp2
    go_ret
    exact ⟨_, rfl, by rw [HN.out]; exact ss_one _ _, (HB _).out⟩
theorem implClone (s : ByteArray) (w : World) (h : s.size ≤ 1048576) : Calls Tryz.prog 78 #[.string s] w fun e w' => e = .returned (.string s) ∧ Below w.heap.size w w' := by
  go_enter Tryz.func78, Tryz.ntmps78
  go_wp2_with fail
  refine (Tryz.stringslite_Clone s _ (by omega)).mono ?_
  rintro e w1 ⟨rfl, hb1⟩
  go_wp2
  go_ret
  exact ⟨rfl, hb1⟩
def sagg (s : StepD) (vc ve : Value) : Value := .agg #[.int .i64 s.kind, .int .i64 s.parent, .string s.name, .int .i64 s.arg, vc, ve]
abbrev sobj (s : StepD) (vc ve : Value) : Obj := .cells #[.int .i64 s.kind, .int .i64 s.parent, .string s.name, .int .i64 s.arg, vc, ve] 49
def aagg (a : AttrD) : Value := .agg #[.string a.name, .string a.value]
theorem fldT (c : Int) (t : ByteArray) (w : World) : Sem.run Tryz.prog (Instr.field 36 (.agg #[.int .i64 c, .string t]) 1) w = .ok (.string t) w := by kernel_rfl
theorem lit_ne {a b : List UInt8} (h : (a == b) = false) : ((ByteArray.mk a.toArray).toList == (ByteArray.mk b.toArray).toList) = false := by rw [ByteArray.toList_mk, ByteArray.toList_mk]; exact h
theorem lit_eq (a : List UInt8) : ((ByteArray.mk a.toArray).toList == (ByteArray.mk a.toArray).toList) = true := by simp
set_option maxRecDepth 100000 in
set_option maxHeartbeats 2000000 in
theorem tellIf (B : Nat) (s : StepD) (vc ve : Value) (w : World) (hl : s.cond.length ≤ 1048576) (hc : Nd.At w B vc s.cond) (he : Nd.At w B ve s.expr) (ht : Ex.Tab w) :
    Calls Tryz.prog 48 #[sagg s vc ve, .string aIf] w fun e w' => e = .returned (aagg ⟨aIf, str (textOf s.cond)⟩) ∧ Below w.heap.size w w' := by
  obtain ⟨a1, c1, rfl⟩ := hc.slice
  obtain ⟨a2, c2, rfl⟩ := he.slice
  have hb0 : Below w.heap.size w ((w.alloc (sobj s (.slice a1 s.cond.length c1) (.slice a2 s.expr.length c2))).alloc (.cells #[.string ⟨#[]⟩, .string ⟨#[]⟩] 68)) := ((Below.refl _ w).alloc (Nat.le_refl _) _).alloc (by simp) _
  have HX := hid (implExprText B s.cond _ _ hl (hc.below hb0) (ht.below hb0))
  have HB := hid hb0
  have q0 : ((ByteArray.mk #[105, 102]).toList == (ByteArray.mk #[110, 97, 109, 101]).toList) = false := lit_ne (by decide)
  have q1 : ((ByteArray.mk #[105, 102]).toList == (ByteArray.mk #[105, 102]).toList) = true := lit_eq [105, 102]
  clear hc he ht hb0 hl
  unfold sagg aagg aIf
  go_enter Tryz.func48, Tryz.ntmps48
  go_wp2_with fail
  refine HX.out.mono ?_
  rintro e w1 ⟨rfl, hb1⟩
  have B1 : Below w.heap.size w w1 := HB.out.trans (hb1.mono HB.out.size)
  have hz : ((w.alloc (sobj s (.slice a1 s.cond.length c1) (.slice a2 s.expr.length c2))).alloc (.cells #[.string ⟨#[]⟩, .string ⟨#[]⟩] 68)).heap.size = w.heap.size + 2 := by simp
  have u0 := kept_cell hb1 (b := w.heap.size + 1) (o := 0) (v := .string ⟨#[]⟩) (by omega) (by go_simp)
  have u1 := kept_cell hb1 (b := w.heap.size + 1) (o := 1) (v := .string ⟨#[]⟩) (by omega) (by go_simp)
  have x0 := kept_free hb1 (b := w.heap.size + 1) (o := 0) (by omega) (by go_simp)
  have x1 := kept_free hb1 (b := w.heap.size + 1) (o := 1) (by omega) (by go_simp)
  clear HX hb1 hz HB
  have l1 : w.heap.size ≤ w.heap.size + 1 := by omega
  have f1 := fldT (eFault s.cond) (str (textOf s.cond))
  go_wp2
  exact bodyPost_ret (v := .agg #[.string ⟨#[105, 102]⟩, .string (str (textOf s.cond))]) (by simp [results, Tryz.results48, go_sem, u0, u1]) rfl ⟨rfl, setB (setB B1 l1 _) l1 _⟩
set_option maxRecDepth 100000 in
set_option maxHeartbeats 2000000 in
theorem tellName (B : Nat) (s : StepD) (vc ve : Value) (w : World) (hl : s.name.size ≤ 1048576) (hc : Nd.At w B vc s.cond) (he : Nd.At w B ve s.expr) (ht : Ex.Tab w) :
    Calls Tryz.prog 48 #[sagg s vc ve, .string aName] w fun e w' => e = .returned (aagg ⟨aName, s.name⟩) ∧ Below w.heap.size w w' := by
  obtain ⟨a1, c1, rfl⟩ := hc.slice
  obtain ⟨a2, c2, rfl⟩ := he.slice
  have hb0 : Below w.heap.size w ((w.alloc (sobj s (.slice a1 s.cond.length c1) (.slice a2 s.expr.length c2))).alloc (.cells #[.string ⟨#[]⟩, .string ⟨#[]⟩] 68)) := ((Below.refl _ w).alloc (Nat.le_refl _) _).alloc (by simp) _
  have HX := hid (implClone s.name ((w.alloc (sobj s (.slice a1 s.cond.length c1) (.slice a2 s.expr.length c2))).alloc (.cells #[.string ⟨#[]⟩, .string ⟨#[]⟩] 68)) hl)
  have HB := hid hb0
  have q0 : ((ByteArray.mk #[110, 97, 109, 101]).toList == (ByteArray.mk #[110, 97, 109, 101]).toList) = true := lit_eq [110, 97, 109, 101]
  clear hc he ht hb0 hl
  unfold sagg aagg aName
  go_enter Tryz.func48, Tryz.ntmps48
  go_wp2_with fail
  refine HX.out.mono ?_
  rintro e w1 ⟨rfl, hb1⟩
  have B1 : Below w.heap.size w w1 := HB.out.trans (hb1.mono HB.out.size)
  have hz : ((w.alloc (sobj s (.slice a1 s.cond.length c1) (.slice a2 s.expr.length c2))).alloc (.cells #[.string ⟨#[]⟩, .string ⟨#[]⟩] 68)).heap.size = w.heap.size + 2 := by simp
  have u0 := kept_cell hb1 (b := w.heap.size + 1) (o := 0) (v := .string ⟨#[]⟩) (by omega) (by go_simp)
  have u1 := kept_cell hb1 (b := w.heap.size + 1) (o := 1) (v := .string ⟨#[]⟩) (by omega) (by go_simp)
  have x0 := kept_free hb1 (b := w.heap.size + 1) (o := 0) (by omega) (by go_simp)
  have x1 := kept_free hb1 (b := w.heap.size + 1) (o := 1) (by omega) (by go_simp)
  clear HX hb1 hz HB
  have l1 : w.heap.size ≤ w.heap.size + 1 := by omega
  go_wp2
  exact bodyPost_ret (v := .agg #[.string ⟨#[110, 97, 109, 101]⟩, .string (s.name)]) (by simp [results, Tryz.results48, go_sem, u0, u1]) rfl ⟨rfl, setB (setB B1 l1 _) l1 _⟩
set_option maxRecDepth 100000 in
set_option maxHeartbeats 2000000 in
theorem tellTo (B : Nat) (s : StepD) (vc ve : Value) (w : World) (hl : s.expr.length ≤ 1048576) (hc : Nd.At w B vc s.cond) (he : Nd.At w B ve s.expr) (ht : Ex.Tab w) :
    Calls Tryz.prog 48 #[sagg s vc ve, .string aTo] w fun e w' => e = .returned (aagg ⟨aTo, str (textOf s.expr)⟩) ∧ Below w.heap.size w w' := by
  obtain ⟨a1, c1, rfl⟩ := hc.slice
  obtain ⟨a2, c2, rfl⟩ := he.slice
  have hb0 : Below w.heap.size w ((w.alloc (sobj s (.slice a1 s.cond.length c1) (.slice a2 s.expr.length c2))).alloc (.cells #[.string ⟨#[]⟩, .string ⟨#[]⟩] 68)) := ((Below.refl _ w).alloc (Nat.le_refl _) _).alloc (by simp) _
  have HX := hid (implExprText B s.expr _ _ hl (he.below hb0) (ht.below hb0))
  have HB := hid hb0
  have q0 : ((ByteArray.mk #[116, 111]).toList == (ByteArray.mk #[110, 97, 109, 101]).toList) = false := lit_ne (by decide)
  have q1 : ((ByteArray.mk #[116, 111]).toList == (ByteArray.mk #[105, 102]).toList) = false := lit_ne (by decide)
  have q2 : ((ByteArray.mk #[116, 111]).toList == (ByteArray.mk #[116, 111]).toList) = true := lit_eq [116, 111]
  clear hc he ht hb0 hl
  unfold sagg aagg aTo
  go_enter Tryz.func48, Tryz.ntmps48
  go_wp2_with fail
  refine HX.out.mono ?_
  rintro e w1 ⟨rfl, hb1⟩
  have B1 : Below w.heap.size w w1 := HB.out.trans (hb1.mono HB.out.size)
  have hz : ((w.alloc (sobj s (.slice a1 s.cond.length c1) (.slice a2 s.expr.length c2))).alloc (.cells #[.string ⟨#[]⟩, .string ⟨#[]⟩] 68)).heap.size = w.heap.size + 2 := by simp
  have u0 := kept_cell hb1 (b := w.heap.size + 1) (o := 0) (v := .string ⟨#[]⟩) (by omega) (by go_simp)
  have u1 := kept_cell hb1 (b := w.heap.size + 1) (o := 1) (v := .string ⟨#[]⟩) (by omega) (by go_simp)
  have x0 := kept_free hb1 (b := w.heap.size + 1) (o := 0) (by omega) (by go_simp)
  have x1 := kept_free hb1 (b := w.heap.size + 1) (o := 1) (by omega) (by go_simp)
  clear HX hb1 hz HB
  have l1 : w.heap.size ≤ w.heap.size + 1 := by omega
  have f1 := fldT (eFault s.expr) (str (textOf s.expr))
  go_wp2
  exact bodyPost_ret (v := .agg #[.string ⟨#[116, 111]⟩, .string (str (textOf s.expr))]) (by simp [results, Tryz.results48, go_sem, u0, u1]) rfl ⟨rfl, setB (setB B1 l1 _) l1 _⟩
set_option maxRecDepth 100000 in
set_option maxHeartbeats 2000000 in
theorem tellMsg (B : Nat) (s : StepD) (vc ve : Value) (w : World) (h0 : 0 ≤ s.arg) (h1 : s.arg ≤ 99) (hc : Nd.At w B vc s.cond) (he : Nd.At w B ve s.expr) (ht : Ex.Tab w) :
    Calls Tryz.prog 48 #[sagg s vc ve, .string aMsg] w fun e w' => e = .returned (aagg ⟨aMsg, digs s⟩) ∧ Below w.heap.size w w' := by
  obtain ⟨a1, c1, rfl⟩ := hc.slice
  obtain ⟨a2, c2, rfl⟩ := he.slice
  have hb0 : Below w.heap.size w ((w.alloc (sobj s (.slice a1 s.cond.length c1) (.slice a2 s.expr.length c2))).alloc (.cells #[.string ⟨#[]⟩, .string ⟨#[]⟩] 68)) := ((Below.refl _ w).alloc (Nat.le_refl _) _).alloc (by simp) _
  have HX := hid (Ex.implInt s.arg ((w.alloc (sobj s (.slice a1 s.cond.length c1) (.slice a2 s.expr.length c2))).alloc (.cells #[.string ⟨#[]⟩, .string ⟨#[]⟩] 68)) h0 (by omega) (ht.below hb0))
  have HB := hid hb0
  have q0 : ((ByteArray.mk #[109, 115, 103]).toList == (ByteArray.mk #[110, 97, 109, 101]).toList) = false := lit_ne (by decide)
  have q1 : ((ByteArray.mk #[109, 115, 103]).toList == (ByteArray.mk #[105, 102]).toList) = false := lit_ne (by decide)
  have q2 : ((ByteArray.mk #[109, 115, 103]).toList == (ByteArray.mk #[116, 111]).toList) = false := lit_ne (by decide)
  clear hc he ht hb0 h0 h1
  unfold sagg aagg aMsg
  go_enter Tryz.func48, Tryz.ntmps48
  go_wp2_with fail
  refine HX.out.mono ?_
  rintro e w1 ⟨rfl, hb1⟩
  have B1 : Below w.heap.size w w1 := HB.out.trans (hb1.mono HB.out.size)
  have hz : ((w.alloc (sobj s (.slice a1 s.cond.length c1) (.slice a2 s.expr.length c2))).alloc (.cells #[.string ⟨#[]⟩, .string ⟨#[]⟩] 68)).heap.size = w.heap.size + 2 := by simp
  have u0 := kept_cell hb1 (b := w.heap.size + 1) (o := 0) (v := .string ⟨#[]⟩) (by omega) (by go_simp)
  have u1 := kept_cell hb1 (b := w.heap.size + 1) (o := 1) (v := .string ⟨#[]⟩) (by omega) (by go_simp)
  have x0 := kept_free hb1 (b := w.heap.size + 1) (o := 0) (by omega) (by go_simp)
  have x1 := kept_free hb1 (b := w.heap.size + 1) (o := 1) (by omega) (by go_simp)
  clear HX hb1 hz HB
  have l1 : w.heap.size ≤ w.heap.size + 1 := by omega
  go_wp2
  exact bodyPost_ret (v := .agg #[.string ⟨#[109, 115, 103]⟩, .string (digs s)]) (by simp [results, Tryz.results48, go_sem, u0, u1, digs, str]) rfl ⟨rfl, setB (setB B1 l1 _) l1 _⟩
set_option maxRecDepth 100000 in
set_option maxHeartbeats 2000000 in
theorem tellTicks (B : Nat) (s : StepD) (vc ve : Value) (w : World) (h0 : 0 ≤ s.arg) (h1 : s.arg ≤ 99) (hc : Nd.At w B vc s.cond) (he : Nd.At w B ve s.expr) (ht : Ex.Tab w) :
    Calls Tryz.prog 48 #[sagg s vc ve, .string aTicks] w fun e w' => e = .returned (aagg ⟨aTicks, digs s⟩) ∧ Below w.heap.size w w' := by
  obtain ⟨a1, c1, rfl⟩ := hc.slice
  obtain ⟨a2, c2, rfl⟩ := he.slice
  have hb0 : Below w.heap.size w ((w.alloc (sobj s (.slice a1 s.cond.length c1) (.slice a2 s.expr.length c2))).alloc (.cells #[.string ⟨#[]⟩, .string ⟨#[]⟩] 68)) := ((Below.refl _ w).alloc (Nat.le_refl _) _).alloc (by simp) _
  have HX := hid (Ex.implInt s.arg ((w.alloc (sobj s (.slice a1 s.cond.length c1) (.slice a2 s.expr.length c2))).alloc (.cells #[.string ⟨#[]⟩, .string ⟨#[]⟩] 68)) h0 (by omega) (ht.below hb0))
  have HB := hid hb0
  have q0 : ((ByteArray.mk #[116, 105, 99, 107, 115]).toList == (ByteArray.mk #[110, 97, 109, 101]).toList) = false := lit_ne (by decide)
  have q1 : ((ByteArray.mk #[116, 105, 99, 107, 115]).toList == (ByteArray.mk #[105, 102]).toList) = false := lit_ne (by decide)
  have q2 : ((ByteArray.mk #[116, 105, 99, 107, 115]).toList == (ByteArray.mk #[116, 111]).toList) = false := lit_ne (by decide)
  clear hc he ht hb0 h0 h1
  unfold sagg aagg aTicks
  go_enter Tryz.func48, Tryz.ntmps48
  go_wp2_with fail
  refine HX.out.mono ?_
  rintro e w1 ⟨rfl, hb1⟩
  have B1 : Below w.heap.size w w1 := HB.out.trans (hb1.mono HB.out.size)
  have hz : ((w.alloc (sobj s (.slice a1 s.cond.length c1) (.slice a2 s.expr.length c2))).alloc (.cells #[.string ⟨#[]⟩, .string ⟨#[]⟩] 68)).heap.size = w.heap.size + 2 := by simp
  have u0 := kept_cell hb1 (b := w.heap.size + 1) (o := 0) (v := .string ⟨#[]⟩) (by omega) (by go_simp)
  have u1 := kept_cell hb1 (b := w.heap.size + 1) (o := 1) (v := .string ⟨#[]⟩) (by omega) (by go_simp)
  have x0 := kept_free hb1 (b := w.heap.size + 1) (o := 0) (by omega) (by go_simp)
  have x1 := kept_free hb1 (b := w.heap.size + 1) (o := 1) (by omega) (by go_simp)
  clear HX hb1 hz HB
  have l1 : w.heap.size ≤ w.heap.size + 1 := by omega
  go_wp2
  exact bodyPost_ret (v := .agg #[.string ⟨#[116, 105, 99, 107, 115]⟩, .string (digs s)]) (by simp [results, Tryz.results48, go_sem, u0, u1, digs, str]) rfl ⟨rfl, setB (setB B1 l1 _) l1 _⟩
set_option maxRecDepth 100000 in
set_option maxHeartbeats 2000000 in
theorem tellVar (B : Nat) (s : StepD) (vc ve : Value) (w : World) (h0 : 0 ≤ s.arg) (h1 : s.arg ≤ 99) (hc : Nd.At w B vc s.cond) (he : Nd.At w B ve s.expr) (ht : Ex.Tab w) :
    Calls Tryz.prog 48 #[sagg s vc ve, .string aVar] w fun e w' => e = .returned (aagg ⟨aVar, digs s⟩) ∧ Below w.heap.size w w' := by
  obtain ⟨a1, c1, rfl⟩ := hc.slice
  obtain ⟨a2, c2, rfl⟩ := he.slice
  have hb0 : Below w.heap.size w ((w.alloc (sobj s (.slice a1 s.cond.length c1) (.slice a2 s.expr.length c2))).alloc (.cells #[.string ⟨#[]⟩, .string ⟨#[]⟩] 68)) := ((Below.refl _ w).alloc (Nat.le_refl _) _).alloc (by simp) _
  have HX := hid (Ex.implInt s.arg ((w.alloc (sobj s (.slice a1 s.cond.length c1) (.slice a2 s.expr.length c2))).alloc (.cells #[.string ⟨#[]⟩, .string ⟨#[]⟩] 68)) h0 (by omega) (ht.below hb0))
  have HB := hid hb0
  have q0 : ((ByteArray.mk #[118, 97, 114]).toList == (ByteArray.mk #[110, 97, 109, 101]).toList) = false := lit_ne (by decide)
  have q1 : ((ByteArray.mk #[118, 97, 114]).toList == (ByteArray.mk #[105, 102]).toList) = false := lit_ne (by decide)
  have q2 : ((ByteArray.mk #[118, 97, 114]).toList == (ByteArray.mk #[116, 111]).toList) = false := lit_ne (by decide)
  clear hc he ht hb0 h0 h1
  unfold sagg aagg aVar
  go_enter Tryz.func48, Tryz.ntmps48
  go_wp2_with fail
  refine HX.out.mono ?_
  rintro e w1 ⟨rfl, hb1⟩
  have B1 : Below w.heap.size w w1 := HB.out.trans (hb1.mono HB.out.size)
  have hz : ((w.alloc (sobj s (.slice a1 s.cond.length c1) (.slice a2 s.expr.length c2))).alloc (.cells #[.string ⟨#[]⟩, .string ⟨#[]⟩] 68)).heap.size = w.heap.size + 2 := by simp
  have u0 := kept_cell hb1 (b := w.heap.size + 1) (o := 0) (v := .string ⟨#[]⟩) (by omega) (by go_simp)
  have u1 := kept_cell hb1 (b := w.heap.size + 1) (o := 1) (v := .string ⟨#[]⟩) (by omega) (by go_simp)
  have x0 := kept_free hb1 (b := w.heap.size + 1) (o := 0) (by omega) (by go_simp)
  have x1 := kept_free hb1 (b := w.heap.size + 1) (o := 1) (by omega) (by go_simp)
  clear HX hb1 hz HB
  have l1 : w.heap.size ≤ w.heap.size + 1 := by omega
  go_wp2
  exact bodyPost_ret (v := .agg #[.string ⟨#[118, 97, 114]⟩, .string (digs s)]) (by simp [results, Tryz.results48, go_sem, u0, u1, digs, str]) rfl ⟨rfl, setB (setB B1 l1 _) l1 _⟩
theorem names_at (s : StepD) {j : Nat} (h : j < (namesL s).length) : ∃ h2 : j < (kindA s).length, (namesL s)[j] = (kindA s)[j].name := by
  have h2 : j < (kindA s).length := by unfold namesL at h; rwa [List.length_map] at h
  exact ⟨h2, by simp only [namesL, List.getElem_map]⟩
theorem tellKind (B : Nat) (s : StepD) (vc ve : Value) (w : World) (hF : Fine s) (hn : s.name.size ≤ 1048576) (hl : s.expr.length ≤ 1048576) (hc : Nd.At w B vc s.cond) (he : Nd.At w B ve s.expr) (ht : Ex.Tab w) (j : Nat) (hj : j < (kindA s).length) :
    Calls Tryz.prog 48 #[sagg s vc ve, .string (kindA s)[j].name] w fun e w' => e = .returned (aagg (kindA s)[j]) ∧ Below w.heap.size w w' := by
  rcases kinds hF.kind with k | k | k | k | k | k | k | k
  · simp [kind0 (s := s) (by omega)] at hj
  · have e := kind2 k
    simp only [e] at hj ⊢
    obtain rfl : j = 0 := by simpa using hj
    exact tellName B s vc ve w hn hc he ht
  · simp [kind0 (s := s) (by omega)] at hj
  · simp [kind0 (s := s) (by omega)] at hj
  · have e := kind5 k
    simp only [e] at hj ⊢
    obtain rfl : j = 0 := by simpa using hj
    exact tellMsg B s vc ve w hF.arg.1 hF.arg.2 hc he ht
  · have e := kind6 (s := s) (by omega)
    simp only [e] at hj ⊢
    obtain rfl : j = 0 := by simpa using hj
    exact tellTicks B s vc ve w hF.arg.1 hF.arg.2 hc he ht
  · have e := kind7 k
    simp only [e] at hj ⊢
    match j, hj with
    | 0, _ => exact tellVar B s vc ve w hF.arg.1 hF.arg.2 hc he ht
    | 1, _ => exact tellTo B s vc ve w hl hc he ht
  · have e := kind6 (s := s) (by omega)
    simp only [e] at hj ⊢
    obtain rfl : j = 0 := by simpa using hj
    exact tellTicks B s vc ve w hF.arg.1 hF.arg.2 hc he ht
end Tf
end Go.Proofs.YtgghigfflpbjiaaGreatDoor
