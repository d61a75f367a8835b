/- Laid together: RcB, GnA, FlA, TrM. -/
import Derived.Test.YtfgckeoigkoflaaGreatDoorJGraphOf1
import Derived.Deep.SlicePairs
import Derived.Lib.SlBytesConst
import Derived.Laws.OwnMore
import Derived.WalkKit
/- What rows of records that hold a row of nodes have in common: rows kept, the law's marks of texts and of nodes. -/
namespace Go.Proofs.YtfgckeoigkoflaaGreatDoor
open Go.RowKit Go.Deep
set_option linter.unusedVariables false
namespace Rc
open Ex (hid)
open Nd (NodeD)
theorem str_ne (s : ByteArray) : (s.toList != s.toList) = false := by simp
theorem old_cell {B : Nat} {W w : World} (h : Below B W w) {b o : Nat} (hb : b < B) {v : Value} (hc : W.cell? ⟨b, o, none⟩ = some v) : w.cell? ⟨b, o, none⟩ = some v := (h.cell (p := ⟨b, o, none⟩) hb).trans hc
theorem old_free {B : Nat} {W w : World} (h : Below B W w) {b o : Nat} (hb : b < B) (hc : W.frozen? ⟨b, o, none⟩ = false) : w.frozen? ⟨b, o, none⟩ = false := (h.frozen (p := ⟨b, o, none⟩) hb).trans hc
theorem setB {B : Nat} {W w : World} (h : Below B W w) {b o : Nat} (hb : B ≤ b) (x : Value) : Below B W (w.setCell ⟨b, o, none⟩ x) := h.setCell hb x
theorem ownKept {w w' : World} {B C m : Nat} {v : Value} (h : Nd.Own w B C v m) (hb : ∀ g, B ≤ g → g < C → g < w.heap.size → w'.heap[g]? = w.heap[g]?) : Nd.Own w' B C v m := by
  obtain ⟨g, f, rfl, h1, h2, h3⟩ := h
  exact ⟨g, f, rfl, h1, h2, h3.of_block (hb g h1 h2 h3.lt)⟩
theorem ownBelow {w w' : World} {B C m : Nat} {v : Value} (h : Nd.Own w B C v m) (hb : Below w.heap.size w w') : Nd.Own w' B C v m := ownKept h (fun g _ _ hg => hb.block g hg)
theorem ownMono {w : World} {B B' C C' m : Nat} {v : Value} (h : Nd.Own w B C v m) (hB : B' ≤ B) (hC : C ≤ C') : Nd.Own w B' C' v m := by
  obtain ⟨g, f, rfl, h1, h2, h3⟩ := h
  exact ⟨g, f, rfl, Nat.le_trans hB h1, Nat.lt_of_lt_of_le h2 hC, h3⟩
theorem ownSet {w : World} {B C m b o : Nat} {v : Value} (h : Nd.Own w B C v m) (hb : b < B) (x : Value) : Nd.Own (w.setCell ⟨b, o, none⟩ x) B C v m :=
  ownKept h (fun g hg _ _ => Below.heap_setCell _ _ _ _ (by dsimp only; omega))
def dg (k : Nat) : UInt8 := (48 + k % 10).toUInt8
theorem dg_nat (j : Nat) : ((dg j).toNat : Int) = 48 + (j : Int) % 10 := by
  unfold dg
  have h : (48 + j % 10) < 256 := by omega
  rw [Nat.toUInt8, UInt8.toNat_ofNat', Nat.mod_eq_of_lt h]
  push_cast
  rfl
theorem conv1 (j : Nat) (w : World) : Sem.run Tryz.prog (convert 113 9 (.slice (some ⟨w.heap.size, 0, none⟩) 1 1)) (w.alloc (.cells #[.int .u8 (48 + (j : Int) % 10)] 5)) = .ok (.string ⟨[dg j].toArray⟩) (w.alloc (.cells #[.int .u8 (48 + (j : Int) % 10)] 5)) := by
  refine run_convert_bytes_back (P := Tryz.prog) _ 113 9 5 ⟨w.heap.size, 0, none⟩ 1 [dg j] Tryz.underlying113 Tryz.underlying5 Tryz.underlying9 ?_
  intro i hi
  obtain rfl : i = 0 := by simpa using hi
  simp [Addr.add, dg_nat]
theorem app_one (c : UInt8) (l : List UInt8) : Value.string (ByteArray.mk [c].toArray ++ ByteArray.mk l.toArray) = .string ⟨(c :: l).toArray⟩ := by
  apply congrArg Value.string; apply ByteArray.ext; simp
set_option maxRecDepth 100000 in
set_option maxHeartbeats 2000000 in
theorem markText (k : Nat) (w : World) (h0 : 0 < k) (hk : k ≤ 35184372088832) : Calls Tryz.prog 24 #[.int .i64 k] w fun e w' => (∃ s, e = .returned (.string s)) ∧ Below w.heap.size w w' := by
  have q0 : (0 : Int) < (k : Int) := by omega
  have q00 : k ≠ 0 := by omega
  go_enter Tryz.func24, Tryz.ntmps24
  go_wp2
  go_loopw [0, 3] (fun i o wr => ∃ (j : Nat) (l : List UInt8), i = .int .i64 j ∧ o = .string ⟨l.toArray⟩ ∧ l.length + j ≤ k ∧ Below w.heap.size w wr) (fun i _ _ => (intOf i).toNat)
  case atStart => exact ⟨k, [], rfl, rfl, by simp, Below.refl _ _⟩
  case round =>
    obtain ⟨j, l, rfl, rfl, hl, hbel⟩ := hrel
    by_cases hj : 0 < j
    · have q1 : (0 : Int) < (j : Int) := by omega
      go_wp2
      rw [conv1]
      simp only [Result.andThen]
      rw [Oper.upon_value]
      go_wp2
      exact ⟨⟨j / 10, dg j :: l, by simp, app_one _ _, by simp only [List.length_cons]; omega, hbel.alloc hbel.size _⟩, by simp [intOf]; omega⟩
    · have q1 : ¬ (0 : Int) < (j : Int) := by omega
      go_wp2
      go_ret
      exact ⟨⟨_, rfl⟩, hbel⟩
theorem markText' (k : Int) (w : World) (h0 : 0 < k) (hk : k ≤ 35184372088832) : Calls Tryz.prog 24 #[.int .i64 k] w fun e w' => (∃ s, e = .returned (.string s)) ∧ Below w.heap.size w w' := by
  have h := markText k.toNat w (by omega) (by omega)
  rw [show ((k.toNat : Nat) : Int) = k by omega] at h
  exact h
/-- Nothing has turned but blocks between the two. -/
structure Amid (w w' : World) (B C : Nat) : Prop where
  os : w'.os = w.os
  tape : w'.tape = w.tape
  output : w'.output = w.output
  size : w.heap.size ≤ w'.heap.size
  block : ∀ b, b < w.heap.size → b < B ∨ C ≤ b → w'.heap[b]? = w.heap[b]?
theorem Amid.refl (w : World) (B C : Nat) : Amid w w B C := ⟨rfl, rfl, rfl, Nat.le_refl _, fun _ _ _ => rfl⟩
theorem Amid.trans {w w1 w2 : World} {B C : Nat} (h : Amid w w1 B C) (h2 : Amid w1 w2 B C) : Amid w w2 B C :=
  ⟨h2.os.trans h.os, h2.tape.trans h.tape, h2.output.trans h.output, Nat.le_trans h.size h2.size, fun b hb ho => (h2.block b (Nat.lt_of_lt_of_le hb h.size) ho).trans (h.block b hb ho)⟩
theorem Amid.of_below {w w' : World} {B C : Nat} (h : Below w.heap.size w w') : Amid w w' B C := ⟨h.os, h.tape, h.output, h.size, fun b hb _ => h.block b hb⟩
theorem Amid.set (w : World) {B C g : Nat} (c : Nat) (u : Value) (h1 : B ≤ g) (h2 : g < C) : Amid w (w.setCell ⟨g, c, none⟩ u) B C :=
  ⟨rfl, rfl, rfl, by simp [World.setCell], fun b hb ho => Below.heap_setCell _ _ _ _ (by dsimp only; omega)⟩
theorem Amid.mono {w w' : World} {B B' C C' : Nat} (h : Amid w w' B C) (h1 : B' ≤ B) (h2 : C ≤ C') : Amid w w' B' C' := ⟨h.os, h.tape, h.output, h.size, fun b hb ho => h.block b hb (by omega)⟩
theorem row_size {w : World} {g : Nat} {t t' : TypeId} {n n' : Nat} {f f' : Nat → Value} (h : w.rowIs g t n f) (h' : w.rowIs g t' n' f') : n = n' := by
  rcases Nat.lt_trichotomy n n' with e | e | e
  · have h1 := h'.cell e
    have h2 : w.cell? ⟨g, n, none⟩ = none := by
      obtain ⟨c, h3, h4, _⟩ := h
      simp [World.cell?, h3, h4]
    rw [h2] at h1
    cases h1
  · exact e
  · have h1 := h.cell e
    have h2 : w.cell? ⟨g, n', none⟩ = none := by
      obtain ⟨c, h3, h4, _⟩ := h'
      simp [World.cell?, h3, h4]
    rw [h2] at h1
    cases h1
set_option maxRecDepth 100000 in
set_option maxHeartbeats 4000000 in
theorem markNodes (g : Nat) (m : Nat) (f : Nat → Value) (k : Int) (w : World) (hm : m ≤ 1048576) (h0 : 0 < k) (hk : k ≤ 17592186044416) (hr : w.rowIs g 115 (m * 4) f) :
    Calls Tryz.prog 25 #[.slice (some ⟨g, 0, none⟩) m m, .int .i64 k] w fun e w' => (∃ r : Int, e = .returned (.int .i64 r) ∧ k ≤ r ∧ r ≤ k + 4 * (m : Int)) ∧ (∃ f', w'.rowIs g 115 (m * 4) f') ∧ Amid w w' g (g + 1) := by
  have HR := hid hr
  clear hr
  go_enter Tryz.func25, Tryz.ntmps25
  go_wp2
  go_loopw [1, 5] (fun q i wr => ∃ (j : Nat) (f' : Nat → Value), i = .int .i64 j ∧ q = .int .i64 (k + 4 * (j : Int)) ∧ j ≤ m ∧ Hid (wr.rowIs g 115 (m * 4) f') ∧ Hid (Amid w wr g (g + 1))) (fun _ i _ => m - (intOf i).toNat)
  case atStart => exact ⟨0, f, rfl, by simp, Nat.zero_le _, HR, hid (Amid.refl _ _ _)⟩
  case round =>
    obtain ⟨j, f', rfl, rfl, hj, HW, HAM⟩ := hrel
    by_cases hlt : j < m
    · have q1 : (j : Int) < (m : Int) := by omega
      have d0 := HW.out.cell (i := j * 4) (by omega)
      have d1 := HW.out.cell (i := j * 4 + 1) (by omega)
      have d2 := HW.out.cell (i := j * 4 + 2) (by omega)
      have d3 := HW.out.cell (i := j * 4 + 3) (by omega)
      have f0 := HW.out.frozen (j * 4)
      have f1 := HW.out.frozen (j * 4 + 1)
      have f2 := HW.out.frozen (j * 4 + 2)
      have f3 := HW.out.frozen (j * 4 + 3)
      have HR2 := hid ((((HW.out.set (j * 4) (.int .i64 (k + 4 * (j : Int)))).set (j * 4 + 1) (.int .i64 (k + 4 * (j : Int) + 1))).set (j * 4 + 2) (.int .i64 (k + 4 * (j : Int) + 1 + 1))).set (j * 4 + 3) (.int .i64 (k + 4 * (j : Int) + 1 + 1 + 1)))
      have HA2 := hid ((((HAM.out.trans (Amid.set wr (j * 4) (.int .i64 (k + 4 * (j : Int))) (Nat.le_refl _) (Nat.lt_succ_self _))).trans (Amid.set _ (j * 4 + 1) (.int .i64 (k + 4 * (j : Int) + 1)) (Nat.le_refl _) (Nat.lt_succ_self _))).trans (Amid.set _ (j * 4 + 2) (.int .i64 (k + 4 * (j : Int) + 1 + 1)) (Nat.le_refl _) (Nat.lt_succ_self _))).trans (Amid.set _ (j * 4 + 3) (.int .i64 (k + 4 * (j : Int) + 1 + 1 + 1)) (Nat.le_refl _) (Nat.lt_succ_self _)))
      go_wp2
      exact ⟨⟨j + 1, _, by simp, by simp; omega, by omega, HR2, HA2⟩, by simp [intOf]; omega⟩
    · obtain rfl : j = m := by omega
      go_wp2
      go_ret
      exact ⟨⟨_, rfl, by omega, by omega⟩, ⟨f', HW.out⟩, HAM.out⟩
theorem ownAmid {w w' : World} {B C m g : Nat} {v : Value} {f : Nat → Value} {n : Nat} (h : Nd.Own w B C v m) (hA : Amid w w' g (g + 1)) (hr : w.rowIs g 115 (n * 4) f) (hr' : ∃ f', w'.rowIs g 115 (n * 4) f') : Nd.Own w' B C v m := by
  obtain ⟨gi, fi, hvi, hi1, hi2, hri⟩ := h
  by_cases e3 : gi = g
  · subst e3
    have hs := row_size hri hr
    obtain ⟨f', hf'⟩ := hr'
    exact ⟨gi, f', hvi, hi1, hi2, by rw [hs]; exact hf'⟩
  · exact ⟨gi, fi, hvi, hi1, hi2, hri.of_block (hA.block gi hri.lt (by omega))⟩
end Rc
end Go.Proofs.YtfgckeoigkoflaaGreatDoor
/- Rows of records (GNode) in memory, and the law's measure of them. -/
namespace Go.Proofs.YtfgckeoigkoflaaGreatDoor
open Go.RowKit Go.Deep
set_option linter.unusedVariables false
namespace Gn
open Ex (hid)
open Nd (NodeD)
open Rc
structure GNodeD where
  kind : Int
  step : Int
  name : ByteArray
  arg : Int
  expr : List NodeD
def At (w : World) (B : Nat) (v : Value) (ss : List GNodeD) : Prop :=
  ∃ a cap, v = .slice a ss.length cap ∧ ss.length ≤ cap ∧ cap ≤ maxLen ∧ (ss = [] ∨ ∃ g o, a = some ⟨g, o, none⟩ ∧ B ≤ g ∧ g < w.heap.size ∧
    ∀ i (h : i < ss.length), w.cell? ⟨g, o + i * 5, none⟩ = some (.int .i64 ss[i].kind) ∧ w.cell? ⟨g, o + i * 5 + 1, none⟩ = some (.int .i64 ss[i].step) ∧ w.cell? ⟨g, o + i * 5 + 2, none⟩ = some (.string ss[i].name) ∧ w.cell? ⟨g, o + i * 5 + 3, none⟩ = some (.int .i64 ss[i].arg) ∧ ∃ vx, w.cell? ⟨g, o + i * 5 + 4, none⟩ = some vx ∧ Nd.At w B vx ss[i].expr)
theorem At.kept {w w' : World} {B : Nat} {v : Value} {ss : List GNodeD} (h : At w B v ss) (hs : w.heap.size ≤ w'.heap.size) (hb : ∀ g, B ≤ g → g < w.heap.size → w'.heap[g]? = w.heap[g]?) : At w' B v ss := by
  obtain ⟨a, cap, rfl, hle, hmx, h⟩ := h
  refine ⟨a, cap, rfl, hle, hmx, ?_⟩
  rcases h with h | ⟨g, o, rfl, hB, hg, hc⟩
  · exact .inl h
  · refine .inr ⟨g, o, rfl, hB, Nat.lt_of_lt_of_le hg hs, fun i hi => ?_⟩
    have e : ∀ off, w'.cell? ⟨g, off, none⟩ = w.cell? ⟨g, off, none⟩ := fun off => by simp only [World.cell?, hb g hB hg]
    obtain ⟨h0, h1, h2, h3, vx, hx, hy⟩ := hc i hi
    exact ⟨(e _).trans h0, (e _).trans h1, (e _).trans h2, (e _).trans h3, vx, (e _).trans hx, hy.kept hs hb⟩
theorem At.below {w w' : World} {B : Nat} {v : Value} {ss : List GNodeD} (h : At w B v ss) (hb : Below w.heap.size w w') : At w' B v ss := h.kept hb.size (fun g _ hg => hb.block g hg)
theorem At.setBelow {w : World} {B : Nat} {v : Value} {ss : List GNodeD} (h : At w B v ss) {b o : Nat} (ha : b < B) (x : Value) : At (w.setCell ⟨b, o, none⟩ x) B v ss :=
  h.kept (by simp [World.setCell]) (fun g hg _ => Below.heap_setCell _ _ _ _ (by dsimp only; omega))
theorem At.mono {w : World} {B B' : Nat} {v : Value} {ss : List GNodeD} (h : At w B v ss) (hB : B' ≤ B) : At w B' v ss := by
  obtain ⟨a, cap, rfl, hle, hmx, h⟩ := h
  refine ⟨a, cap, rfl, hle, hmx, ?_⟩
  rcases h with h | ⟨g, o, rfl, hb, hg, hc⟩
  · exact .inl h
  · refine .inr ⟨g, o, rfl, Nat.le_trans hB hb, hg, fun i hi => ?_⟩
    obtain ⟨h0, h1, h2, h3, vx, hx, hy⟩ := hc i hi
    exact ⟨h0, h1, h2, h3, vx, hx, hy.mono hB⟩
theorem At.slice {w : World} {B : Nat} {v : Value} {ss : List GNodeD} (h : At w B v ss) : ∃ a cap, v = .slice a ss.length cap := by
  obtain ⟨a, cap, rfl, _⟩ := h; exact ⟨a, cap, rfl⟩
theorem At.at {w : World} {B : Nat} {a : Option Addr} {n cap : Nat} {ss : List GNodeD} (h : At w B (.slice a n cap) ss) {i : Nat} (hi : i < ss.length) :
    ∃ g o vx, a = some ⟨g, o, none⟩ ∧ g < w.heap.size ∧ w.cell? ⟨g, o + i * 5, none⟩ = some (.int .i64 ss[i].kind) ∧ w.cell? ⟨g, o + i * 5 + 1, none⟩ = some (.int .i64 ss[i].step) ∧ w.cell? ⟨g, o + i * 5 + 2, none⟩ = some (.string ss[i].name) ∧ w.cell? ⟨g, o + i * 5 + 3, none⟩ = some (.int .i64 ss[i].arg) ∧ w.cell? ⟨g, o + i * 5 + 4, none⟩ = some vx ∧ Nd.At w B vx ss[i].expr := by
  obtain ⟨a', cap', e, _, _, h⟩ := h
  cases e
  rcases h with h | ⟨g, o, rfl, _, hg, hc⟩
  · subst h; simp at hi
  · obtain ⟨h0, h1, h2, h3, vx, hx⟩ := hc i hi
    exact ⟨g, o, vx, rfl, hg, h0, h1, h2, h3, hx⟩
theorem At.cap {w : World} {B : Nat} {a : Option Addr} {n cap : Nat} {ss : List GNodeD} (h : At w B (.slice a n cap) ss) : ss.length ≤ cap ∧ cap ≤ maxLen := by
  obtain ⟨a', cap', e, h1, h2, _⟩ := h; cases e; exact ⟨h1, h2⟩
theorem At.nil (w : World) (B : Nat) : At w B (.slice none 0 0) [] := ⟨_, _, rfl, Nat.le_refl _, Nat.zero_le _, .inl rfl⟩
/-- No part of it is longer than it can be. -/
def Ok (ss : List GNodeD) : Prop := ∀ s ∈ ss, s.name.size ≤ maxLen ∧ s.expr.length ≤ maxLen
/-- All of it is within a bound. -/
def Small1 (n : Int) (s : GNodeD) : Prop := (s.name.size : Int) ≤ n ∧ (s.expr.length : Int) ≤ n
def Small (n : Int) (ss : List GNodeD) : Prop := (ss.length : Int) ≤ n ∧ ∀ s ∈ ss, Small1 n s
theorem Small1.mono {m n : Int} {s : GNodeD} (h : Small1 m s) (hm : m ≤ n) : Small1 n s := ⟨Int.le_trans h.1 hm, Int.le_trans h.2 hm⟩
theorem Small.at {n : Int} {ss : List GNodeD} (h : Small n ss) {i : Nat} (hi : i < ss.length) : Small1 n ss[i] := h.2 _ (List.getElem_mem hi)
theorem Small.mono {m n : Int} {ss : List GNodeD} (h : Small m ss) (hm : m ≤ n) : Small n ss := ⟨Int.le_trans h.1 hm, fun s hs => (h.2 s hs).mono hm⟩
end Gn
end Go.Proofs.YtfgckeoigkoflaaGreatDoor
/- Rows of records (Flow) in memory, and the law's measure of them. -/
namespace Go.Proofs.YtfgckeoigkoflaaGreatDoor
open Go.RowKit Go.Deep
set_option linter.unusedVariables false
namespace Fl
open Ex (hid)
open Nd (NodeD)
open Rc
structure FlowD where
  src : Int
  dst : Int
  cond : List NodeD
def At (w : World) (B : Nat) (v : Value) (ss : List FlowD) : Prop :=
  ∃ a cap, v = .slice a ss.length cap ∧ ss.length ≤ cap ∧ cap ≤ maxLen ∧ (ss = [] ∨ ∃ g o, a = some ⟨g, o, none⟩ ∧ B ≤ g ∧ g < w.heap.size ∧
    ∀ i (h : i < ss.length), w.cell? ⟨g, o + i * 3, none⟩ = some (.int .i64 ss[i].src) ∧ w.cell? ⟨g, o + i * 3 + 1, none⟩ = some (.int .i64 ss[i].dst) ∧ ∃ vx, w.cell? ⟨g, o + i * 3 + 2, none⟩ = some vx ∧ Nd.At w B vx ss[i].cond)
theorem At.kept {w w' : World} {B : Nat} {v : Value} {ss : List FlowD} (h : At w B v ss) (hs : w.heap.size ≤ w'.heap.size) (hb : ∀ g, B ≤ g → g < w.heap.size → w'.heap[g]? = w.heap[g]?) : At w' B v ss := by
  obtain ⟨a, cap, rfl, hle, hmx, h⟩ := h
  refine ⟨a, cap, rfl, hle, hmx, ?_⟩
  rcases h with h | ⟨g, o, rfl, hB, hg, hc⟩
  · exact .inl h
  · refine .inr ⟨g, o, rfl, hB, Nat.lt_of_lt_of_le hg hs, fun i hi => ?_⟩
    have e : ∀ off, w'.cell? ⟨g, off, none⟩ = w.cell? ⟨g, off, none⟩ := fun off => by simp only [World.cell?, hb g hB hg]
    obtain ⟨h0, h1, vx, hx, hy⟩ := hc i hi
    exact ⟨(e _).trans h0, (e _).trans h1, vx, (e _).trans hx, hy.kept hs hb⟩
theorem At.below {w w' : World} {B : Nat} {v : Value} {ss : List FlowD} (h : At w B v ss) (hb : Below w.heap.size w w') : At w' B v ss := h.kept hb.size (fun g _ hg => hb.block g hg)
theorem At.setBelow {w : World} {B : Nat} {v : Value} {ss : List FlowD} (h : At w B v ss) {b o : Nat} (ha : b < B) (x : Value) : At (w.setCell ⟨b, o, none⟩ x) B v ss :=
  h.kept (by simp [World.setCell]) (fun g hg _ => Below.heap_setCell _ _ _ _ (by dsimp only; omega))
theorem At.mono {w : World} {B B' : Nat} {v : Value} {ss : List FlowD} (h : At w B v ss) (hB : B' ≤ B) : At w B' v ss := by
  obtain ⟨a, cap, rfl, hle, hmx, h⟩ := h
  refine ⟨a, cap, rfl, hle, hmx, ?_⟩
  rcases h with h | ⟨g, o, rfl, hb, hg, hc⟩
  · exact .inl h
  · refine .inr ⟨g, o, rfl, Nat.le_trans hB hb, hg, fun i hi => ?_⟩
    obtain ⟨h0, h1, vx, hx, hy⟩ := hc i hi
    exact ⟨h0, h1, vx, hx, hy.mono hB⟩
theorem At.slice {w : World} {B : Nat} {v : Value} {ss : List FlowD} (h : At w B v ss) : ∃ a cap, v = .slice a ss.length cap := by
  obtain ⟨a, cap, rfl, _⟩ := h; exact ⟨a, cap, rfl⟩
theorem At.at {w : World} {B : Nat} {a : Option Addr} {n cap : Nat} {ss : List FlowD} (h : At w B (.slice a n cap) ss) {i : Nat} (hi : i < ss.length) :
    ∃ g o vx, a = some ⟨g, o, none⟩ ∧ g < w.heap.size ∧ w.cell? ⟨g, o + i * 3, none⟩ = some (.int .i64 ss[i].src) ∧ w.cell? ⟨g, o + i * 3 + 1, none⟩ = some (.int .i64 ss[i].dst) ∧ w.cell? ⟨g, o + i * 3 + 2, none⟩ = some vx ∧ Nd.At w B vx ss[i].cond := by
  obtain ⟨a', cap', e, _, _, h⟩ := h
  cases e
  rcases h with h | ⟨g, o, rfl, _, hg, hc⟩
  · subst h; simp at hi
  · obtain ⟨h0, h1, vx, hx⟩ := hc i hi
    exact ⟨g, o, vx, rfl, hg, h0, h1, hx⟩
theorem At.cap {w : World} {B : Nat} {a : Option Addr} {n cap : Nat} {ss : List FlowD} (h : At w B (.slice a n cap) ss) : ss.length ≤ cap ∧ cap ≤ maxLen := by
  obtain ⟨a', cap', e, h1, h2, _⟩ := h; cases e; exact ⟨h1, h2⟩
theorem At.nil (w : World) (B : Nat) : At w B (.slice none 0 0) [] := ⟨_, _, rfl, Nat.le_refl _, Nat.zero_le _, .inl rfl⟩
/-- No part of it is longer than it can be. -/
def Ok (ss : List FlowD) : Prop := ∀ s ∈ ss, s.cond.length ≤ maxLen
/-- All of it is within a bound. -/
def Small1 (n : Int) (s : FlowD) : Prop := (s.cond.length : Int) ≤ n
def Small (n : Int) (ss : List FlowD) : Prop := (ss.length : Int) ≤ n ∧ ∀ s ∈ ss, Small1 n s
theorem Small1.mono {m n : Int} {s : FlowD} (h : Small1 m s) (hm : m ≤ n) : Small1 n s := Int.le_trans h hm
theorem Small.at {n : Int} {ss : List FlowD} (h : Small n ss) {i : Nat} (hi : i < ss.length) : Small1 n ss[i] := h.2 _ (List.getElem_mem hi)
theorem Small.mono {m n : Int} {ss : List FlowD} (h : Small m ss) (hm : m ≤ n) : Small n ss := ⟨Int.le_trans h.1 hm, fun s hs => (h.2 s hs).mono hm⟩
end Fl
end Go.Proofs.YtfgckeoigkoflaaGreatDoor
/- Plain facts about trees of marks, of no program: names, values, attrs, what is wrong with a tree. -/
namespace Go.Proofs.YtfgckeoigkoflaaGreatDoor
set_option linter.unusedVariables false
namespace Tr
structure AttrD where
  name : ByteArray
  value : ByteArray
structure ElemD where
  tag : ByteArray
  parent : Int
  attrs : List AttrD
def ints (l : List Nat) : List Int := l.map fun (n : Nat) => (n : Int)
/-- The last place of a path, -1 where there is none. -/
def top : List Nat → Int
  | [] => -1
  | a :: _ => a
/-- A path: each stands below the next, the last below none. -/
def Chain (es : List ElemD) : List Nat → Prop
  | [] => True
  | a :: r => (∃ e, es[a]? = some e ∧ e.parent = top r) ∧ top r < a ∧ Chain es r
def cutTo (p : Int) : List Nat → List Nat
  | [] => []
  | a :: r => if (a : Int) = p then a :: r else cutTo p r
def onPath (p : Int) (S : List Nat) : Bool := S.any fun a => decide ((a : Int) = p)
theorem top_lt {es : List ElemD} {a : Nat} {r : List Nat} (h : Chain es (a :: r)) : top r < a := h.2.1
theorem top_ge (S : List Nat) : -1 ≤ top S := by
  cases S with
  | nil => exact Int.le_refl _
  | cons a r => show (-1 : Int) ≤ (a : Int); omega
theorem chain_tail {es : List ElemD} {a : Nat} {r : List Nat} (h : Chain es (a :: r)) : Chain es r := h.2.2
theorem chain_cut {es : List ElemD} {p : Int} : ∀ {S : List Nat}, Chain es S → Chain es (cutTo p S)
  | [], h => trivial
  | a :: r, h => by
    unfold cutTo
    split
    · exact h
    · exact chain_cut h.2.2
theorem top_cut {p : Int} : ∀ {S : List Nat}, onPath p S = true → top (cutTo p S) = p
  | [], h => by simp [onPath] at h
  | a :: r, h => by
    unfold cutTo
    split
    · next he => simpa [top] using he
    · next he =>
      refine top_cut ?_
      simpa [onPath, he] using h
theorem cut_le {p : Int} : ∀ {S : List Nat}, (cutTo p S).length ≤ S.length
  | [] => Nat.le_refl _
  | a :: r => by
    unfold cutTo
    split
    · exact Nat.le_refl _
    · exact Nat.le_trans cut_le (by simp)
/-- All of a path but the first stand ahead of the first. -/
theorem on_lt {es : List ElemD} {p : Int} : ∀ {S : List Nat}, Chain es S → onPath p S = true → p ≤ top S
  | [], _, h => by simp [onPath] at h
  | a :: r, hc, h => by
    simp only [onPath, List.any_cons, Bool.or_eq_true, decide_eq_true_eq] at h
    rcases h with h | h
    · simp [top]; omega
    · have := on_lt hc.2.2 h
      have := hc.2.1
      simp [top]; omega
theorem on_nonneg {p : Int} {S : List Nat} (h : onPath p S = true) : 0 ≤ p := by
  simp only [onPath, List.any_eq_true, decide_eq_true_eq] at h
  obtain ⟨a, _, h⟩ := h
  omega
theorem onPath_cons {p : Int} {a : Nat} {r : List Nat} : onPath p (a :: r) = (decide ((a : Int) = p) || onPath p r) := rfl
theorem cut_yes {p : Int} {a : Nat} {r : List Nat} (h : (a : Int) = p) : cutTo p (a :: r) = a :: r := by rw [cutTo, if_pos h]
theorem cut_no {p : Int} {a : Nat} {r : List Nat} (h : (a : Int) ≠ p) : cutTo p (a :: r) = cutTo p r := by rw [cutTo, if_neg h]

/-! ### names and values -/
def azByte (c : UInt8) : Bool := decide (97 ≤ c.toNat) && decide (c.toNat ≤ 122)
def azAll (l : List UInt8) : Bool := l.all azByte
def nf (l : List UInt8) : Int := if azAll l = false then 5 else if l.length = 0 then 5 else if 8 < l.length then 2 else 0
def plainB (c : UInt8) : Bool := decide (32 ≤ c.toNat) && decide (c.toNat ≤ 126)
def plainAll (l : List UInt8) : Bool := l.all plainB
def vcode (l : List UInt8) : Int := if 40 < l.length then 2 else if plainAll l = false then 5 else 0
def hasName (l : List AttrD) (nm : ByteArray) : Bool := l.any fun a => a.name.toList == nm.toList
def acodeFrom (pre : List AttrD) : List AttrD → Int
  | [] => 0
  | a :: r => if nf a.name.data.toList ≠ 0 then nf a.name.data.toList else if hasName pre a.name then 6 else if vcode a.value.data.toList ≠ 0 then vcode a.value.data.toList else acodeFrom (pre ++ [a]) r
def acode (l : List AttrD) : Int := acodeFrom [] l

/-! ### what is wrong with a tree -/
def faultFrom (i : Nat) (S : List Nat) : List ElemD → Int
  | [] => 0
  | e :: r =>
    if nf e.tag.data.toList ≠ 0 then nf e.tag.data.toList
    else if (i = 0 ∧ e.parent ≠ -1) ∨ (0 < i ∧ ¬ (0 ≤ e.parent ∧ e.parent < i)) then 3
    else if 0 < i ∧ onPath e.parent S = false then 1
    else if 8 < (cutTo e.parent S).length + 1 ∨ 6 < e.attrs.length then 2
    else if acode e.attrs ≠ 0 then acode e.attrs
    else faultFrom (i + 1) (i :: cutTo e.parent S) r
def fault (es : List ElemD) : Int := if es.length < 1 ∨ 40 < es.length then 2 else faultFrom 0 [] es
/-- How far a tree is looked through with nothing found. -/
structure Seen (es : List ElemD) (i : Nat) (S : List Nat) : Prop where
  le : i ≤ es.length
  chain : Chain es S
  deep : S.length ≤ 8
  first : top S = (i : Int) - 1
  same : fault es = faultFrom i S (es.drop i)
theorem Seen.start {es : List ElemD} (h1 : ¬ es.length < 1) (h2 : ¬ 40 < es.length) : Seen es 0 [] :=
  ⟨Nat.zero_le _, trivial, by simp, rfl, by unfold fault; rw [if_neg (by omega)]; rfl⟩
theorem drop_cons {es : List ElemD} {i : Nat} (h : i < es.length) : es.drop i = es[i] :: es.drop (i + 1) := List.drop_eq_getElem_cons h
theorem Seen.name {es : List ElemD} {i : Nat} {S : List Nat} (s : Seen es i S) (h : i < es.length) (hn : nf es[i].tag.data.toList ≠ 0) : fault es = nf es[i].tag.data.toList := by
  rw [s.same, drop_cons h, faultFrom, if_pos hn]
theorem Seen.range {es : List ElemD} {i : Nat} {S : List Nat} (s : Seen es i S) (h : i < es.length) (hn : nf es[i].tag.data.toList = 0)
    (hp : (i = 0 ∧ es[i].parent ≠ -1) ∨ (0 < i ∧ ¬ (0 ≤ es[i].parent ∧ es[i].parent < i))) : fault es = 3 := by
  rw [s.same, drop_cons h, faultFrom, if_neg (by simp [hn]), if_pos hp]
theorem Seen.form {es : List ElemD} {i : Nat} {S : List Nat} (s : Seen es i S) (h : i < es.length) (hn : nf es[i].tag.data.toList = 0)
    (hp : ¬ ((i = 0 ∧ es[i].parent ≠ -1) ∨ (0 < i ∧ ¬ (0 ≤ es[i].parent ∧ es[i].parent < i)))) (hf : 0 < i ∧ onPath es[i].parent S = false) : fault es = 1 := by
  rw [s.same, drop_cons h, faultFrom, if_neg (by simp [hn]), if_neg hp, if_pos hf]
theorem Seen.many {es : List ElemD} {i : Nat} {S : List Nat} (s : Seen es i S) (h : i < es.length) (hn : nf es[i].tag.data.toList = 0)
    (hp : ¬ ((i = 0 ∧ es[i].parent ≠ -1) ∨ (0 < i ∧ ¬ (0 ≤ es[i].parent ∧ es[i].parent < i)))) (hf : ¬ (0 < i ∧ onPath es[i].parent S = false))
    (hm : 8 < (cutTo es[i].parent S).length + 1 ∨ 6 < es[i].attrs.length) : fault es = 2 := by
  rw [s.same, drop_cons h, faultFrom, if_neg (by simp [hn]), if_neg hp, if_neg hf, if_pos hm]
theorem Seen.attr {es : List ElemD} {i : Nat} {S : List Nat} (s : Seen es i S) (h : i < es.length) (hn : nf es[i].tag.data.toList = 0)
    (hp : ¬ ((i = 0 ∧ es[i].parent ≠ -1) ∨ (0 < i ∧ ¬ (0 ≤ es[i].parent ∧ es[i].parent < i)))) (hf : ¬ (0 < i ∧ onPath es[i].parent S = false))
    (hm : ¬ (8 < (cutTo es[i].parent S).length + 1 ∨ 6 < es[i].attrs.length)) (ha : acode es[i].attrs ≠ 0) : fault es = acode es[i].attrs := by
  rw [s.same, drop_cons h, faultFrom, if_neg (by simp [hn]), if_neg hp, if_neg hf, if_neg hm, if_pos ha]
/-- The path of the next element. -/
theorem next_chain {es : List ElemD} {i : Nat} {S : List Nat} (hc : Chain es S) (h1 : top S = (i : Int) - 1) (h : i < es.length)
    (hp : ¬ ((i = 0 ∧ es[i].parent ≠ -1) ∨ (0 < i ∧ ¬ (0 ≤ es[i].parent ∧ es[i].parent < i)))) (hf : ¬ (0 < i ∧ onPath es[i].parent S = false)) :
    Chain es (i :: cutTo es[i].parent S) := by
  have e1 : es[i].parent = top (cutTo es[i].parent S) := by
    rcases Nat.eq_zero_or_pos i with h0 | h0
    · subst h0
      cases S with
      | nil => have : ¬ es[0].parent ≠ -1 := fun e => hp (.inl ⟨rfl, e⟩)
               show es[0].parent = -1
               omega
      | cons a r => exact absurd h1 (by show ¬ ((a : Int) = (0 : Nat) - 1); omega)
    · refine (top_cut ?_).symm
      cases hb : onPath es[i].parent S
      · exact absurd ⟨h0, hb⟩ hf
      · rfl
  refine ⟨⟨es[i], List.getElem?_eq_getElem h, e1⟩, ?_, chain_cut hc⟩
  rw [← e1]
  rcases Nat.eq_zero_or_pos i with h0 | h0
  · have : ¬ es[i].parent ≠ -1 := fun e => hp (.inl ⟨h0, e⟩)
    omega
  · have : ¬ ¬ (0 ≤ es[i].parent ∧ es[i].parent < i) := fun e => hp (.inr ⟨h0, e⟩)
    omega
theorem Seen.next {es : List ElemD} {i : Nat} {S : List Nat} (s : Seen es i S) (h : i < es.length) (hn : nf es[i].tag.data.toList = 0)
    (hp : ¬ ((i = 0 ∧ es[i].parent ≠ -1) ∨ (0 < i ∧ ¬ (0 ≤ es[i].parent ∧ es[i].parent < i)))) (hf : ¬ (0 < i ∧ onPath es[i].parent S = false))
    (hm : ¬ (8 < (cutTo es[i].parent S).length + 1 ∨ 6 < es[i].attrs.length)) (ha : acode es[i].attrs = 0) : Seen es (i + 1) (i :: cutTo es[i].parent S) := by
  refine ⟨h, next_chain s.chain s.first h hp hf, by simp only [List.length_cons]; omega, by simp [top], ?_⟩
  rw [s.same, drop_cons h, faultFrom, if_neg (by simp [hn]), if_neg hp, if_neg hf, if_neg hm, if_neg (by simp [ha])]
theorem Seen.done {es : List ElemD} {i : Nat} {S : List Nat} (s : Seen es i S) (h : ¬ i < es.length) : fault es = 0 := by
  rw [s.same, List.drop_eq_nil_of_le (by omega)]; rfl
theorem fault_many {es : List ElemD} (h : es.length < 1 ∨ 40 < es.length) : fault es = 2 := by unfold fault; rw [if_pos h]
/-! ### attrs -/
structure SeenA (l : List AttrD) (k : Nat) : Prop where
  le : k ≤ l.length
  same : acode l = acodeFrom (l.take k) (l.drop k)
theorem SeenA.start (l : List AttrD) : SeenA l 0 := ⟨Nat.zero_le _, by simp [acode]⟩
theorem dropA {l : List AttrD} {i : Nat} (h : i < l.length) : l.drop i = l[i] :: l.drop (i + 1) := List.drop_eq_getElem_cons h
theorem SeenA.name {l : List AttrD} {k : Nat} (s : SeenA l k) (h : k < l.length) (hn : nf l[k].name.data.toList ≠ 0) : acode l = nf l[k].name.data.toList := by
  rw [s.same, dropA h, acodeFrom, if_pos hn]
theorem SeenA.taken {l : List AttrD} {k : Nat} (s : SeenA l k) (h : k < l.length) (hn : nf l[k].name.data.toList = 0) (ht : hasName (l.take k) l[k].name = true) : acode l = 6 := by
  rw [s.same, dropA h, acodeFrom, if_neg (by simp [hn]), if_pos ht]
theorem SeenA.value {l : List AttrD} {k : Nat} (s : SeenA l k) (h : k < l.length) (hn : nf l[k].name.data.toList = 0) (ht : hasName (l.take k) l[k].name = false) (hv : vcode l[k].value.data.toList ≠ 0) : acode l = vcode l[k].value.data.toList := by
  rw [s.same, dropA h, acodeFrom, if_neg (by simp [hn]), if_neg (by simp [ht]), if_pos hv]
theorem SeenA.next {l : List AttrD} {k : Nat} (s : SeenA l k) (h : k < l.length) (hn : nf l[k].name.data.toList = 0) (ht : hasName (l.take k) l[k].name = false) (hv : vcode l[k].value.data.toList = 0) : SeenA l (k + 1) := by
  refine ⟨h, ?_⟩
  rw [s.same, dropA h, acodeFrom, if_neg (by simp [hn]), if_neg (by simp [ht]), if_neg (by simp [hv]), List.take_succ_eq_append_getElem h]
theorem SeenA.done {l : List AttrD} {k : Nat} (s : SeenA l k) (h : ¬ k < l.length) : acode l = 0 := by
  rw [s.same, List.drop_eq_nil_of_le (by omega)]; rfl
end Tr
end Go.Proofs.YtfgckeoigkoflaaGreatDoor
